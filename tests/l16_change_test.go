package tests

import (
	"fmt"
	"math"
	"slices"
	"testing"

	"loop.example/g00553/impl"
)

func ranking(who, rank int64) asked {
	return asked{
		fmt.Sprint("Ranked ", who, " ", rank),
		func(m impl.Smithy) (impl.Smithy, int64) { return impl.Ranked(m, who, rank) },
		func(m impl.Smithy) (impl.Smithy, int64) { return wantRanked(m, who, rank) },
	}
}

func allowing(who, may int64) asked {
	return asked{
		fmt.Sprint("Allowed ", who, " ", may),
		func(m impl.Smithy) (impl.Smithy, int64) { return impl.Allowed(m, who, may) },
		func(m impl.Smithy) (impl.Smithy, int64) { return wantAllowed(m, who, may) },
	}
}

func limiting(who, low, high int64) asked {
	return asked{
		fmt.Sprint("Limited ", who, " ", low, " ", high),
		func(m impl.Smithy) (impl.Smithy, int64) { return impl.Limited(m, who, low, high) },
		func(m impl.Smithy) (impl.Smithy, int64) { return wantLimited(m, who, low, high) },
	}
}

func closing(bench int64) asked {
	return asked{
		fmt.Sprint("Closed ", bench),
		func(m impl.Smithy) (impl.Smithy, int64) { return impl.Closed(m, bench) },
		func(m impl.Smithy) (impl.Smithy, int64) { return wantClosed(m, bench) },
	}
}

func opening(bench int64) asked {
	return asked{
		fmt.Sprint("Opened ", bench),
		func(m impl.Smithy) (impl.Smithy, int64) { return impl.Opened(m, bench) },
		func(m impl.Smithy) (impl.Smithy, int64) { return wantOpened(m, bench) },
	}
}

// wantChange has one smith changed, where it is there and what is asked for is in range.
func wantChange(m impl.Smithy, who int64, inRange bool, change func(s *impl.Smith)) (impl.Smithy, int64) {
	switch {
	case !wantSmithyOk(m):
		return impl.Smithy{}, 3
	case stateOf(m, who) == 0:
		return m, 1
	case !inRange:
		return m, 3
	}
	x := lendSmithy(m)
	change(&x.Smiths[who])
	return x, 0
}

func wantRanked(m impl.Smithy, who, rank int64) (impl.Smithy, int64) {
	x, code := wantChange(m, who, isFrom(rank, -5, 5), func(s *impl.Smith) {
		s.Rank = rank
		for s.Carry >= weightAt(rank) {
			s.Carry -= weightAt(rank)
		}
	})
	if code != 0 {
		return x, code
	}
	return wantTurned(x), 0
}

func wantLimited(m impl.Smithy, who, low, high int64) (impl.Smithy, int64) {
	inRange := isFrom(low, 0, mostBound) && isFrom(high, 0, mostBound) && low <= high
	x, code := wantChange(m, who, inRange, func(s *impl.Smith) { s.Low, s.High = low, high })
	if code != 0 {
		return x, code
	}
	return wantTurned(x), 0
}

// wantPut has who at another bench, as far ahead of the Mark there as it was here.
func wantPut(m impl.Smithy, who, bench int64) {
	s := &m.Smiths[who]
	ahead := s.Had - m.Desks[s.Bench].Mark
	s.State, s.Bench, s.Had = 2, bench, m.Desks[bench].Mark+ahead
}

func wantAllowed(m impl.Smithy, who, may int64) (impl.Smithy, int64) {
	x, code := wantChange(m, who, isFrom(may, 1, 255), func(s *impl.Smith) { s.May = may })
	if code != 0 {
		return x, code
	}
	if s := x.Smiths[who]; s.State >= 2 && !slices.Contains(wantMembers(may), s.Bench) {
		bench := wantChosen(x, wantUsedNow(x), who)
		if bench == -1 {
			return m, 2
		}
		wantPut(x, who, bench)
	}
	return wantTurned(x), 0
}

// openBenches holds the benches of a smithy that are Open, rising.
func openBenches(m impl.Smithy) []int64 {
	list := []int64{}
	for bench, d := range m.Desks {
		if d.Open {
			list = append(list, int64(bench))
		}
	}
	return list
}

// setOf is the set of those benches.
func setOf(benches ...int64) int64 {
	set := int64(0)
	for _, bench := range benches {
		set |= 1 << bench
	}
	return set
}

func wantClosed(m impl.Smithy, bench int64) (impl.Smithy, int64) {
	switch {
	case !wantSmithyOk(m):
		return impl.Smithy{}, 3
	case !isFrom(bench, 0, int64(len(m.Desks))-1):
		return m, 1
	case !m.Desks[bench].Open:
		return m, 2
	case len(openBenches(m)) == 1:
		return m, 5
	}
	x := lendSmithy(m)
	x.Desks[bench].Open = false
	for _, e := range wantAt(m, bench) {
		if x.Smiths[e.Who].May&setOf(openBenches(x)...) == 0 {
			x.Smiths[e.Who].May = 1<<len(x.Desks) - 1
		}
		wantPut(x, e.Who, wantChosen(x, wantUsedNow(x), e.Who))
	}
	return wantTurned(x), 0
}

func wantOpened(m impl.Smithy, bench int64) (impl.Smithy, int64) {
	switch {
	case !wantSmithyOk(m):
		return impl.Smithy{}, 3
	case !isFrom(bench, 0, int64(len(m.Desks))-1):
		return m, 1
	case m.Desks[bench].Open:
		return m, 2
	}
	x := lendSmithy(m)
	x.Desks[bench].Open = true
	return wantTurned(x), 0
}

// isStill asks whether who is just as that, but for whose turn it is.
func isStill(s, like impl.Smith) bool {
	if like.State == impl.SmWaits || like.State == impl.SmWorks {
		return isAs(s, like)
	}
	return s == like
}

// checkNobodyLost is the promise by its words: x is right, and all that were in m are there, who waited or worked at a
// bench that is Open and where it may work.
func checkNobodyLost(t *testing.T, m, x impl.Smithy) {
	t.Helper()
	if !impl.SmithyOk(x) || !sameSmithy(impl.Turned(x), x) || len(x.Smiths) != len(m.Smiths) {
		t.Fatalf("not SmithyOk, not Turned or not as many: %+v became %+v", m, x)
	}
	for who, s := range x.Smiths {
		was := m.Smiths[who]
		if was.State < impl.SmWaits {
			if s.State != was.State {
				t.Fatalf("%d was in state %d, and is in %d: %+v became %+v", who, was.State, s.State, m, x)
			}
			continue
		}
		at := slices.ContainsFunc(impl.At(x, s.Bench), func(e impl.Entry) bool { return e.Who == int64(who) })
		if !at || !x.Desks[s.Bench].Open || !impl.InSet(s.May, s.Bench) || !impl.MayWork(x, int64(who), s.Bench) {
			t.Fatalf("%d is without a bench: %+v became %+v", who, m, x)
		}
	}
}

// checkSmithChanged asks that who is as that, and that nobody is lost and all others stay; where it is refused nothing
// changed.
func checkSmithChanged(t *testing.T, m, x impl.Smithy, who int64, code int64, like func() impl.Smith) {
	t.Helper()
	if code != impl.OpDone {
		checkNothingChanged(t, m, x, code)
		return
	}
	checkNobodyLost(t, m, x)
	if want := like(); !isStill(x.Smiths[who], want) {
		t.Fatalf("%d is %+v, and not as %+v: %+v", who, x.Smiths[who], want, m)
	}
	checkOthersStay(t, m, x, int(who))
}

func checkRanking(t *testing.T, m impl.Smithy, who, rank int64) int64 {
	t.Helper()
	x, code := impl.Ranked(m, who, rank)
	checkSmithChanged(t, m, x, who, code, func() impl.Smith {
		s, ok := impl.Reranked(m.Smiths[who], rank)
		if !ok {
			t.Fatalf("%d of %+v is Ranked, and not Reranked %d", who, m, rank)
		}
		return s
	})
	return code
}

func checkLimiting(t *testing.T, m impl.Smithy, who, low, high int64) int64 {
	t.Helper()
	x, code := impl.Limited(m, who, low, high)
	checkSmithChanged(t, m, x, who, code, func() impl.Smith {
		s := m.Smiths[who]
		s.Low, s.High = low, high
		return s
	})
	return code
}

// checkAllowing tells what became of it, too: whether who was put elsewhere.
func checkAllowing(t *testing.T, m impl.Smithy, who, may int64) string {
	t.Helper()
	x, code := impl.Allowed(m, who, may)
	what := fmt.Sprint("Allowed ", code)
	checkSmithChanged(t, m, x, who, code, func() impl.Smith {
		s := m.Smiths[who]
		s.May = may
		if s.State == impl.SmAway || impl.InSet(may, s.Bench) {
			return s
		}
		what = "Allowed elsewhere"
		bench := checkedWhereAllowed(t, m, who, may)
		s.Had, s.Bench = impl.Moved(s.Had, m.Desks[s.Bench].Mark, m.Desks[bench].Mark), bench
		return s
	})
	return what
}

// checkedWhereAllowed is where one who waits or works is Chosen by its new May, by the words of chapter 14 alone. Where it
// is no matter to the crowd whether who is there, that is just where it would be Chosen if it were away.
func checkedWhereAllowed(t *testing.T, m impl.Smithy, who, may int64) int64 {
	t.Helper()
	away := withMay(restingThere(t, m, who), who, may)
	if impl.Crowded(m) == impl.Crowded(away) {
		return impl.Chosen(away, who)
	}
	chosen := int64(-1)
	for _, bench := range slices.Backward(impl.Members(may & setOf(openBenches(m)...))) {
		if chosen == -1 || spareAt(away, bench) >= spareAt(away, chosen) {
			chosen = bench
		}
	}
	return chosen
}

func spareAt(m impl.Smithy, bench int64) int64 {
	return impl.SpareOf(impl.UsedAt(m, bench), impl.ForceOf(m.Hall, bench))
}

// withOpen is that smithy with one bench Open or closed.
func withOpen(m impl.Smithy, bench int64, open bool) impl.Smithy {
	x := lendSmithy(m)
	x.Desks[bench].Open = open
	return x
}

// checkClosing tells what became of it, too: how many were put elsewhere, and whether one may work anywhere then.
func checkClosing(t *testing.T, m impl.Smithy, bench int64) string {
	t.Helper()
	x, code := impl.Closed(m, bench)
	if code != impl.OpDone {
		checkNothingChanged(t, m, x, code)
		return fmt.Sprint("Closed ", code)
	}
	checkNobodyLost(t, m, x)
	q, was := impl.At(m, bench), withOpen(m, bench, false)
	what, whos := fmt.Sprint("Closed with ", min(len(q), 2)), []int{}
	for _, e := range q {
		like, is := m.Smiths[e.Who], x.Smiths[e.Who]
		if like.May&setOf(openBenches(x)...) == 0 {
			like.May, what = setOf(upTo(len(m.Desks) - 1)[1:]...), "Closed to one who may work nowhere else"
		}
		like.Bench, like.Had = is.Bench, impl.Moved(like.Had, m.Desks[bench].Mark, m.Desks[is.Bench].Mark)
		if !isStill(is, like) || is.Bench == bench {
			t.Fatalf("%d is %+v, and not as %+v: %+v", e.Who, is, like, m)
		}
		whos = append(whos, int(e.Who))
	}
	checkOthersStay(t, was, x, whos...)
	if len(q) == 1 {
		checkOnlyOnePut(t, was, x, q[0].Who)
	}
	if len(impl.At(x, bench)) != 0 || impl.IsIdle(x, bench) {
		t.Fatalf("some are at %d: %+v", bench, x)
	}
	return what
}

// checkOnlyOnePut asks that who was the only one there is where it would be Chosen if it were away.
func checkOnlyOnePut(t *testing.T, was, x impl.Smithy, who int64) {
	t.Helper()
	was.Desks[was.Smiths[who].Bench].Who = -1
	was.Smiths[who].State, was.Smiths[who].May = impl.SmAway, x.Smiths[who].May
	if bench := impl.Chosen(was, who); x.Smiths[who].Bench != bench {
		t.Fatalf("%d is at %d, and %d is Chosen: %+v", who, x.Smiths[who].Bench, bench, was)
	}
}

func checkOpening(t *testing.T, m impl.Smithy, bench int64) int64 {
	t.Helper()
	x, code := impl.Opened(m, bench)
	if code != impl.OpDone {
		checkNothingChanged(t, m, x, code)
		return code
	}
	checkNobodyLost(t, m, x)
	checkOthersStay(t, withOpen(m, bench, true), x)
	if !impl.IsIdle(x, bench) || m.Desks[bench].Open {
		t.Fatalf("%d is not idle: %+v became %+v", bench, m, x)
	}
	return code
}

// change is what one may be given by the first three functions.
type change struct{ rank, may, low, high int64 }

func fewChanges() []change {
	return []change{{5, 255, 0, 1024}, {-5, 1, 1024, 1024}, {0, 6, 300, 301}, {6, 0, 2, 1}, {-6, 256, 0, 1025}, {1, 128, 0, 0}}
}

// drawnChanges are of all ranks, Mays and bounds, most of them right.
func drawnChanges(l *lots, count int) []change {
	list := []change{}
	for range count {
		list = append(list, change{l.below(13) - 6, l.below(257), l.below(900), 200 + l.below(826)})
	}
	return list
}

// allChanges holds whatever may be changed of so many smiths and benches.
func allChanges(smiths, benches int, changes ...change) []asked {
	list := []asked{}
	for _, who := range upTo(smiths) {
		for _, c := range changes {
			list = append(list, ranking(who, c.rank), allowing(who, c.may), limiting(who, c.low, c.high))
		}
	}
	for _, bench := range upTo(benches) {
		list = append(list, closing(bench), opening(bench))
	}
	return list
}

func changesOf(m impl.Smithy, changes ...change) []asked {
	return allChanges(len(m.Smiths), len(m.Desks), changes...)
}

// checkPromise16 is the promise by its words, of a smithy that is right, with some changes for all there are.
func checkPromise16(t *testing.T, m impl.Smithy, counted codes, changes ...change) {
	t.Helper()
	if !impl.SmithyOk(m) {
		t.Fatalf("not SmithyOk: %+v", m)
	}
	for _, who := range upTo(len(m.Smiths)) {
		for _, c := range changes {
			counted.add("Ranked", checkRanking(t, m, who, c.rank))
			counted.add("Limited", checkLimiting(t, m, who, c.low, c.high))
			counted[checkAllowing(t, m, who, c.may)]++
		}
	}
	for _, bench := range upTo(len(m.Desks)) {
		counted[checkClosing(t, m, bench)]++
		counted.add("Opened", checkOpening(t, m, bench))
	}
}

func checkChanges(t *testing.T, m impl.Smithy, changes ...change) {
	t.Helper()
	checkAsked(t, m, changesOf(m, changes...)...)
	checkPromise16(t, m, codes{}, changes...)
}

// checkAt asks who is at a bench, in order, and what its Mark is.
func checkAt(t *testing.T, what string, x impl.Smithy, bench, mark int64, want ...impl.Entry) {
	t.Helper()
	who := int64(-1)
	if len(want) > 0 {
		who = want[0].Who
	}
	if q := impl.At(x, bench); !slices.Equal(q, want) || x.Desks[bench].Who != who || x.Desks[bench].Mark != mark {
		t.Errorf("%s: at %d are %v, not %v: %+v", what, bench, q, want, x)
	}
}

func TestRankedCases(t *testing.T) {
	for _, k := range []struct {
		what        string
		who, rank   int64
		code, carry int64
	}{
		{"who works", 0, 5, impl.OpDone, 11},
		{"who waits", 1, -5, impl.OpDone, 12},
		{"who is away", 2, 4, impl.OpDone, 13},
		{"its own rank", 4, 3, impl.OpDone, 14},
		{"who is gone", 3, 0, impl.OpNone, 0},
		{"one past the last one", 5, 0, impl.OpNone, 0},
		{"one ahead of the first one", -1, 0, impl.OpNone, 0},
		{"a rank too high", 0, 6, impl.OpRange, 0},
		{"a rank too low", 0, -6, impl.OpRange, 0},
		{"a rank too high of one who is away", 2, 6, impl.OpRange, 0},
	} {
		m := middleSmithy()
		x := checkCode(t, k.what, m, ranking(k.who, k.rank), k.code)
		checkRanking(t, m, k.who, k.rank)
		if k.code != impl.OpDone {
			continue
		}
		// Smith 1 had less than smith 0, and so it works now.
		want := m.Smiths[k.who]
		want.Rank, want.Carry, want.State = k.rank, k.carry, []int64{2, 3, 1, 0, 3}[k.who]
		if x.Smiths[k.who] != want {
			t.Errorf("%s: %+v, not %+v", k.what, x.Smiths[k.who], want)
		}
	}
	// 1279 is 3 times 335, and 274.
	m := middleSmithy()
	m.Smiths[1].Carry = 1279
	if x := checkCode(t, "a Carry above the weight", m, ranking(1, 5), impl.OpDone); x.Smiths[1].Carry != 274 {
		t.Errorf("%+v", x.Smiths[1])
	}
}

func TestAllowedCases(t *testing.T) {
	m := dearSmithy()
	m.Desks[0].Mark, m.Desks[1].Mark, m.Desks[2].Mark = 3, -7, 90
	for _, k := range []struct {
		what                    string
		who, may                int64
		code, bench, had, works int64
	}{
		{"who works, with its bench", 0, 1, impl.OpDone, 0, 0, 0},
		{"who works, with its bench and another one", 0, 5, impl.OpDone, 0, 0, 0},
		{"who works, with its bench and one that is not there", 0, 129, impl.OpDone, 0, 0, 0},
		{"who works, without its bench", 0, 6, impl.OpDone, 2, 87, 0},
		{"who works, at a bench where another one works", 0, 2, impl.OpDone, 1, -10, 0},
		{"who waits, with its bench", 2, 1, impl.OpDone, 0, 5, 0},
		{"who waits, without its bench", 2, 254, impl.OpDone, 2, 92, 2},
		{"who waits, at a bench where another one works", 2, 2, impl.OpDone, 1, -5, 2},
		{"who works alone, without its bench", 1, 1, impl.OpDone, 0, 10, 0},
		{"who is away, with its bench", 3, 4, impl.OpDone, 2, 9, -1},
		{"who is away, without its bench", 3, 3, impl.OpDone, 2, 9, -1},
		{"who is away, at no bench there is", 3, 248, impl.OpDone, 2, 9, -1},
		{"who works, at no bench there is", 0, 248, impl.OpState, 0, 0, 0},
		{"who waits, at no bench there is", 2, 8, impl.OpState, 0, 0, 0},
		{"an empty May", 0, 0, impl.OpRange, 0, 0, 0},
		{"one past what could be a May", 2, 256, impl.OpRange, 0, 0, 0},
		{"one below what could be a May", 3, -1, impl.OpRange, 0, 0, 0},
		{"who is gone", 4, 255, impl.OpNone, 0, 0, 0},
		{"one past the last one", 5, 255, impl.OpNone, 0, 0, 0},
		{"one ahead of the first one", -1, 255, impl.OpNone, 0, 0, 0},
	} {
		x := checkCode(t, k.what, m, allowing(k.who, k.may), k.code)
		checkAllowing(t, m, k.who, k.may)
		if k.code != impl.OpDone {
			continue
		}
		s := x.Smiths[k.who]
		if s.May != k.may || s.Bench != k.bench || s.Had != k.had || x.Desks[k.bench].Who != k.works {
			t.Errorf("%s: %+v", k.what, x)
		}
	}
}

func TestLimitedCases(t *testing.T) {
	for _, k := range []struct {
		what            string
		who, low, high  int64
		code, want, ask int64
	}{
		{"who works", 0, 150, 160, impl.OpDone, 150, 0},
		{"who works, as it was", 0, 0, 1024, impl.OpDone, 100, 0},
		{"who waits", 2, 0, 7, impl.OpDone, 7, 2},
		{"who is away", 3, 1024, 1024, impl.OpDone, 1024, 3},
		{"who is away and may want nothing", 3, 0, 0, impl.OpDone, 0, 3},
		{"Low as High", 1, 44, 44, impl.OpDone, 44, 1},
		{"Low above High by one", 1, 45, 44, impl.OpRange, 200, 1},
		{"Low below all", 1, -1, 44, impl.OpRange, 200, 1},
		{"High above all", 1, 0, 1025, impl.OpRange, 200, 1},
		{"both above all", 1, 1025, 1025, impl.OpRange, 200, 1},
		{"both below all", 1, -1, -1, impl.OpRange, 200, 1},
		{"who is gone", 4, 0, 1024, impl.OpNone, -1, 4},
		{"one past the last one", 5, 0, 1024, impl.OpNone, -1, 5},
		{"one ahead of the first one", -1, 0, 1024, impl.OpNone, -1, -1},
	} {
		m := dearSmithy()
		x := checkCode(t, k.what, m, limiting(k.who, k.low, k.high), k.code)
		checkLimiting(t, m, k.who, k.low, k.high)
		if want := impl.WantOf(x, k.ask); want != k.want {
			t.Errorf("%s: it wants %d: %+v", k.what, want, x)
		}
		if k.code == impl.OpDone && (x.Smiths[k.who].Low != k.low || x.Smiths[k.who].High != k.high) {
			t.Errorf("%s: %+v", k.what, x.Smiths[k.who])
		}
	}
}

func TestClosedAndOpenedCases(t *testing.T) {
	m := dearSmithy()
	m.Desks[0].Mark, m.Desks[1].Mark, m.Desks[2].Mark = 3, -7, 90
	x := checkCode(t, "a bench with two", m, closing(0), impl.OpDone)
	checkAt(t, "a bench with two", x, 0, 3)
	checkAt(t, "a bench with two", x, 1, 0, entry(0, 1))
	checkAt(t, "a bench with two", x, 2, 90, entry(87, 0), entry(92, 2))
	if x.Desks[0].Open || !x.Desks[1].Open || !x.Desks[2].Open || x.Smiths[3] != m.Smiths[3] || x.Smiths[0].May != 255 {
		t.Errorf("a bench with two: %+v", x)
	}
	checkCode(t, "a bench that is closed", x, closing(0), impl.OpState)
	checkCode(t, "a bench that is Open", x, opening(1), impl.OpState)
	y := checkCode(t, "the last but one", x, closing(2), impl.OpDone)
	checkAt(t, "the last but one", y, 2, 90)
	checkAt(t, "the last but one", y, 1, 0, entry(-3, 0), entry(0, 1), entry(2, 2))
	checkCode(t, "the last one", y, closing(1), impl.OpLast)
	z := checkCode(t, "one more", y, opening(0), impl.OpDone)
	if !z.Desks[0].Open || z.Desks[2].Open || !slices.Equal(z.Smiths, y.Smiths) {
		t.Errorf("one more: %+v", z)
	}
	checkCode(t, "the last one no more", z, closing(1), impl.OpDone)
	empty := checkCode(t, "a bench with nobody", m, closing(2), impl.OpDone)
	if empty.Desks[2] != (impl.Desk{Who: -1, Mark: 90}) || !slices.Equal(empty.Smiths, m.Smiths) {
		t.Errorf("a bench with nobody: %+v", empty)
	}
	for _, n := range []int64{-1, 3} {
		checkCode(t, "no such bench", m, closing(n), impl.OpNone)
		checkCode(t, "no such bench", m, opening(n), impl.OpNone)
	}
}

// unlikeRooms has three benches that are as strong, each in a room of its own, and each dearer than the one ahead.
const unlikeRooms = "1 100:10/1 100:20/1 100:30"

// Two at one bench: the first one has the cheaper bench, and so there is no room for the second one.
func TestTheFirstOnePutIsInTheWay(t *testing.T) {
	for _, k := range []struct {
		what          string
		hads, benches [2]int64
	}{
		{"who had least goes first", [2]int64{3, 8}, [2]int64{1, 2}},
		{"who had least goes first, though it comes later", [2]int64{8, 3}, [2]int64{2, 1}},
		{"of two who had the same the first one goes first", [2]int64{5, 5}, [2]int64{1, 2}},
	} {
		for worker := range int64(2) {
			m := smithyWith(unlikeRooms, nil, smith(impl.SmWaits, 0, k.hads[0], 50), smith(impl.SmWaits, 0, k.hads[1], 50))
			m.Smiths[worker].State, m.Desks[0].Who = impl.SmWorks, worker
			x := checkCode(t, k.what, m, closing(0), impl.OpDone)
			for who, s := range x.Smiths {
				if s.Bench != k.benches[who] || s.Had != k.hads[who] || s.State != impl.SmWorks || x.Desks[s.Bench].Who != int64(who) {
					t.Errorf("%s: %+v", k.what, x)
				}
			}
			// Alone each of them has the cheaper bench, and had just the Mark.
			for who := range int64(2) {
				rest, _ := impl.Rest(m, 1-who)
				alone := checkCode(t, "one alone", rest, closing(0), impl.OpDone)
				checkAt(t, "one alone", alone, 1, 0, entry(0, who))
			}
			checkClosing(t, m, 0)
		}
	}
}

// Whoever has not been put yet is work of its room, at the pace that who was put ahead of it needs there.
func TestWhoIsNotPutYetIsStillThere(t *testing.T) {
	m := smithyWith("2 100:100 200:400/1 200:500", nil, smith(impl.SmWorks, 0, 0, 100), smith(impl.SmWaits, 0, 7, 150))
	m.Smiths[1].May = 3
	// At bench 1 both of them would cost 500, at the other one 250 and the one that is left 150.
	x := checkCode(t, "another one is there", m, closing(0), impl.OpDone)
	checkAt(t, "another one is there", x, 1, 7, entry(7, 1))
	checkAt(t, "another one is there", x, 2, 0, entry(0, 0))
	// Alone it would cost 200 at bench 1, and 250 at the other one.
	alone, _ := impl.Leave(m, 1)
	x = checkCode(t, "nobody else is there", alone, closing(0), impl.OpDone)
	checkAt(t, "nobody else is there", x, 1, 0, entry(0, 0))
	// Who is at the closed bench is in no crowd: 250 there are more than four fifths of 200.
	if !impl.Crowded(m) {
		t.Errorf("not Crowded: %+v", m)
	}
}

// Who must go elsewhere by its new May counts where it is: it may be just the one that is too much.
func TestWhoMustGoIsStillThere(t *testing.T) {
	for _, k := range []struct {
		what            string
		util, may       int64
		crowded         bool
		bench, restless int64
	}{
		{"just not too much", 80, 6, false, 1, 1},
		{"too much by one", 81, 6, true, 2, 1},
		{"too much by one, and one bench alone", 81, 2, true, 1, 1},
		{"too much by one, and no bench but the strong one", 81, 4, true, 2, 2},
	} {
		m := smithyWith("1 100:10/1 200:20/1 300:90", nil, smith(impl.SmWorks, 0, 4, k.util))
		if got := impl.Crowded(m); got != k.crowded {
			t.Errorf("%s: Crowded is %v", k.what, got)
		}
		x := checkCode(t, k.what, m, allowing(0, k.may), impl.OpDone)
		if x.Smiths[0].Bench != k.bench {
			t.Errorf("%s: it is at %d", k.what, x.Smiths[0].Bench)
		}
		checkAllowing(t, m, 0, k.may)
		// Who is away counts nowhere, and has the cheaper bench when it wakes.
		rest, _ := impl.Rest(m, 0)
		away := checkCode(t, k.what, rest, allowing(0, k.may), impl.OpDone)
		if away, _ = impl.Wake(away, 0); away.Smiths[0].Bench != k.restless {
			t.Errorf("%s: it wakes at %d", k.what, away.Smiths[0].Bench)
		}
	}
}

// All that are put have one and the same Mark behind them and ahead of them, for it is Turned behind the last one alone.
func TestMarksStayUntilAllArePut(t *testing.T) {
	m := smithyWith("1 1000:10/1 1000:20", nil, smith(impl.SmWorks, 0, 1009, 5), smith(impl.SmWaits, 0, 1005, 5), smith(impl.SmWaits, 0, 990, 5), smith(impl.SmWorks, 1, 30, 5))
	m.Desks[0].Mark, m.Desks[1].Mark = 1000, 20
	x := checkCode(t, "one is behind", m, closing(0), impl.OpDone)
	checkAt(t, "one is behind", x, 1, 20, entry(10, 2), entry(25, 1), entry(29, 0), entry(30, 3))
	checkAt(t, "one is behind", x, 0, 1000)
	m.Smiths[2].Had = 1007
	x = checkCode(t, "all are ahead", m, closing(0), impl.OpDone)
	checkAt(t, "all are ahead", x, 1, 25, entry(25, 1), entry(27, 2), entry(29, 0), entry(30, 3))
	checkAt(t, "all are ahead", x, 0, 1000)
	x = checkCode(t, "one by its May", m, allowing(1, 2), impl.OpDone)
	checkAt(t, "one by its May", x, 1, 25, entry(25, 1), entry(30, 3))
	checkAt(t, "one by its May", x, 0, 1007, entry(1007, 2), entry(1009, 0))
}

// Who had all that the band has is as far ahead of any Mark there may be, and of no Mark too far.
func TestWhoIsPutStaysInTheBand(t *testing.T) {
	marks := []int64{-mostMark, -mostMark + 1, -lead, -1, 0, 1, credit, billion, mostMark - 1, mostMark}
	for _, from := range marks {
		for _, to := range marks {
			for _, ahead := range []int64{-credit, -credit + 1, -1, 0, 1, lead - 1, lead} {
				for _, state := range []int64{impl.SmWaits, impl.SmWorks} {
					m := smithyWith("1 9:9/1 9:9", nil, smith(state, 0, from+ahead, 5), smith(5-state, 0, from, 5))
					m.Desks[0].Mark, m.Desks[1].Mark = from, to
					for _, a := range []asked{closing(0), allowing(0, 2), allowing(0, 254)} {
						x := checkCode(t, "in the band", m, a, impl.OpDone)
						if s := x.Smiths[0]; s.Bench != 1 || s.Had != to+ahead || !impl.InBand(s.Had, x.Desks[1].Mark) {
							t.Fatalf("%s of %+v = %+v", a.name, m, x)
						}
					}
				}
			}
		}
	}
}

// Who is at a bench that is closed and has no other Open one may work at all benches then, the closed ones too.
func TestWhoMayWorkNowhereElse(t *testing.T) {
	for _, text := range []string{"1 9:9/1 9:9", benchHall, unlikeRooms, eightHall} {
		benches := int64(len(emptySmithy(text).Desks))
		for bench := range benches {
			for other := range benches {
				if other == bench {
					continue
				}
				m := smithyWith(text, nil, smith(impl.SmWorks, bench, 0, 5), smith(impl.SmWaits, bench, 1, 5), smith(impl.SmAway, bench, 2, 5), smith(impl.SmWorks, other, 0, 5))
				all, only := int64(1)<<benches-1, 255-setOf(other)
				m.Smiths[0].May, m.Smiths[1].May, m.Smiths[2].May = only, setOf(bench, other), setOf(bench)
				for i := range m.Desks {
					m.Desks[i].Open = int64(i) == bench || int64(i) == other
				}
				x := checkCode(t, "one other bench", m, closing(bench), impl.OpDone)
				if x.Smiths[0].May != all || x.Smiths[1].May != setOf(bench, other) || x.Smiths[2] != m.Smiths[2] || x.Smiths[3].May != 255 {
					t.Fatalf("Closed(%+v, %d) = %+v", m, bench, x)
				}
				if len(impl.At(x, other)) != 3 || x.Desks[bench].Open {
					t.Fatalf("Closed(%+v, %d) = %+v", m, bench, x)
				}
				checkClosing(t, m, bench)
				// Who is away and may work nowhere stays so until its bench is opened again.
				checkCode(t, "away from a closed bench", x, waking(2), impl.OpState)
				back := checkCode(t, "opened again", x, opening(bench), impl.OpDone)
				woken := checkCode(t, "opened again", back, waking(2), impl.OpDone)
				if woken.Smiths[2].Bench != bench {
					t.Fatalf("%+v", woken)
				}
			}
		}
	}
}

// Every May, right or wrong, for one who is away, waits and works, with some benches closed.
func TestEveryMayOfEveryState(t *testing.T) {
	for _, open := range []int64{255, 1, 2, 3, 0x81, 0x7e, 0x55, 0x80} {
		m := emptySmithy(eightHall)
		first, last := impl.FirstOf(open), impl.Members(open)[len(impl.Members(open))-1]
		m.Smiths = []impl.Smith{smith(impl.SmWorks, first, 0, 90), smith(impl.SmWaits, first, 3, 100), smith(impl.SmAway, last, 4, 50), gone()}
		for bench := range m.Desks {
			m.Desks[bench] = impl.Desk{Open: open>>bench&1 == 1, Who: -1, Mark: int64(bench)}
		}
		m.Desks[first].Who = 0
		for may := int64(-2); may <= 258; may++ {
			for who, s := range m.Smiths {
				code := int64(impl.OpDone)
				switch {
				case s.State == impl.SmGone:
					code = impl.OpNone
				case may < 1 || may > 255:
					code = impl.OpRange
				case s.State != impl.SmAway && may&open == 0:
					code = impl.OpState
				}
				x, k := impl.Allowed(m, int64(who), may)
				if k != code {
					t.Fatalf("Allowed(%+v, %d, %d) = %d, not %d", m, who, may, k, code)
				}
				if is := x.Smiths[who]; code == impl.OpDone && (is.May != may || (s.State == impl.SmAway || impl.InSet(may, s.Bench)) && is.Bench != s.Bench) {
					t.Fatalf("Allowed(%+v, %d, %d) = %+v", m, who, may, x)
				}
				checkAllowing(t, m, int64(who), may)
				checkAnswers(t, m, allowing(int64(who), may))
			}
		}
	}
}

// Each rank, and each Low and High at its limits, for one who is gone, away, waits and works.
func TestRanksAndBoundsAtTheirLimits(t *testing.T) {
	m := middleSmithy()
	m.Smiths[1].Carry, m.Smiths[2].Carry = 1279, 654
	for who, s := range m.Smiths {
		for rank := int64(-8); rank <= 8; rank++ {
			code := int64(impl.OpDone)
			if s.State == impl.SmGone {
				code = impl.OpNone
			} else if !isFrom(rank, -5, 5) {
				code = impl.OpRange
			}
			x := checkCode(t, "a rank", m, ranking(int64(who), rank), code)
			if code == impl.OpDone && (x.Smiths[who].Rank != rank || x.Smiths[who].Carry != s.Carry%weightAt(rank)) {
				t.Errorf("rank %d: %+v", rank, x.Smiths[who])
			}
			checkRanking(t, m, int64(who), rank)
		}
		bounds := []int64{-2, -1, 0, 1, 2, 511, 512, 513, 1022, 1023, 1024, 1025, 1026}
		for _, low := range bounds {
			for _, high := range bounds {
				code := int64(impl.OpDone)
				if s.State == impl.SmGone {
					code = impl.OpNone
				} else if low < 0 || high > 1024 || low > high {
					code = impl.OpRange
				}
				checkCode(t, "bounds", m, limiting(int64(who), low, high), code)
				checkLimiting(t, m, int64(who), low, high)
			}
		}
	}
}

// Every choice of benches that are Open, each of them asked for, and one ahead of the first and one past the last.
func TestEveryBenchThatIsOpenOrNot(t *testing.T) {
	for _, text := range []string{"1 7:7", "1 7:7/1 8:8", benchHall, eightHall} {
		benches := len(emptySmithy(text).Desks)
		for open := int64(1); open < 1<<benches; open++ {
			m := smithyWith(text, nil, smith(impl.SmAway, 0, 5, 9), gone())
			for bench := range m.Desks {
				m.Desks[bench].Open, m.Desks[bench].Mark = open>>bench&1 == 1, int64(bench)*100
			}
			for _, bench := range upTo(benches) {
				shut, opened := int64(impl.OpNone), int64(impl.OpNone)
				switch {
				case !isFrom(bench, 0, int64(benches)-1):
				case !impl.InSet(open, bench):
					shut, opened = impl.OpState, impl.OpDone
				case impl.Members(open)[0] == bench && len(impl.Members(open)) == 1:
					shut, opened = impl.OpLast, impl.OpState
				default:
					shut, opened = impl.OpDone, impl.OpState
				}
				x := checkCode(t, "each bench", m, closing(bench), shut)
				y := checkCode(t, "each bench", m, opening(bench), opened)
				if shut == impl.OpDone && setOf(openBenches(x)...) != open-1<<bench || opened == impl.OpDone && setOf(openBenches(y)...) != open+1<<bench {
					t.Fatalf("bench %d of %+v: %+v and %+v", bench, m, x, y)
				}
				// What is closed and opened again, and the other way about, is as it was, for nobody is there.
				if shut == impl.OpDone {
					back := checkCode(t, "and back", x, opening(bench), impl.OpDone)
					if !sameSmithy(back, m) {
						t.Fatalf("%+v became %+v", m, back)
					}
				}
				if opened == impl.OpDone {
					back := checkCode(t, "and back", y, closing(bench), impl.OpDone)
					if !sameSmithy(back, m) {
						t.Fatalf("%+v became %+v", m, back)
					}
				}
			}
		}
	}
}

// One to twelve at one bench, where one bench after the other is closed, until there is no other one.
func TestAllAtOneBenchGoElsewhere(t *testing.T) {
	for _, text := range []string{"1 700:7/1 90:9", benchHall, dearHall, eightHall, "4 50:5 100:20/4 30:1 1024:9"} {
		for count := 1; count <= mostSmiths; count++ {
			smiths := []impl.Smith{}
			for who := range int64(count) {
				s := smith(impl.SmWaits, 0, (who*7+3)%13, who*who*6)
				s.May = 1 | (who*53+2)%256
				smiths = append(smiths, s)
			}
			m := smithyWith(text, nil, smiths...)
			m.Smiths[count/2].State, m.Desks[0].Who = impl.SmWorks, int64(count/2)
			for bench := range m.Desks {
				m.Desks[bench].Mark = int64(bench) * 37 % 40
			}
			for i := range m.Desks {
				bench := int64(i*3) % int64(len(m.Desks))
				if len(m.Desks)%3 == 0 {
					bench = int64(i)
				}
				code := int64(impl.OpDone)
				if i == len(m.Desks)-1 {
					code = impl.OpLast
				}
				x := checkCode(t, fmt.Sprint(count, " smiths"), m, closing(bench), code)
				checkClosing(t, m, bench)
				m = x
			}
			if last := openBenches(m); len(last) != 1 || len(impl.At(m, last[0])) != count {
				t.Fatalf("%d smiths: %+v", count, m)
			}
		}
	}
}

// Where several codes apply it is the one named first.
func TestSeveralCodesOfChangesAtOnce(t *testing.T) {
	m := smithyWith(benchHall, nil, smith(impl.SmWorks, 0, 4, 5), smith(impl.SmAway, 1, 0, 5), gone())
	m.Desks[1].Open, m.Desks[2].Open = false, false
	for _, k := range []struct {
		what string
		a    asked
		code int64
	}{
		{"gone and no rank", ranking(2, 6), impl.OpNone},
		{"nobody and no rank", ranking(3, 6), impl.OpNone},
		{"gone and no May", allowing(2, 0), impl.OpNone},
		{"gone and no Open bench", allowing(2, 2), impl.OpNone},
		{"nobody and no May", allowing(-1, 256), impl.OpNone},
		{"no May, which has no Open bench", allowing(0, 0), impl.OpRange},
		{"one past what could be a May, which has no Open bench", allowing(0, 256), impl.OpRange},
		{"no Open bench alone", allowing(0, 254), impl.OpState},
		{"no Open bench of one who is away", allowing(1, 254), impl.OpDone},
		{"no May of one who is away", allowing(1, 256), impl.OpRange},
		{"gone and no bounds", limiting(2, 1, 0), impl.OpNone},
		{"nobody and no bounds", limiting(3, 0, 1025), impl.OpNone},
		{"closed, and no other one but the last", closing(1), impl.OpState},
		{"the last one", closing(0), impl.OpLast},
		{"no bench", closing(3), impl.OpNone},
		{"no bench", opening(3), impl.OpNone},
		{"the last one is Open", opening(0), impl.OpState},
		{"one more", opening(1), impl.OpDone},
	} {
		checkCode(t, k.what, m, k.a, k.code)
	}
	one := smithyWith("1 5:5", nil, gone())
	checkCode(t, "the only bench", one, closing(0), impl.OpLast)
	checkCode(t, "one past the only bench", one, closing(1), impl.OpNone)
	checkCode(t, "the only bench", one, opening(0), impl.OpState)
	m.Now = -1
	checkNothingDone(t, "a Now below 0, and all else that may be refused", m, changesOf(m, fewChanges()...)...)
}

// Behind all that is done each bench is Turned, those too where nothing was changed; what is refused is not Turned.
func TestAllBenchesAreTurnedBehindAChange(t *testing.T) {
	m := smithyWith("2 300:9/1 300:9/1 300:9", nil,
		smith(impl.SmWorks, 0, 9, 5), smith(impl.SmWaits, 0, 4, 5), smith(impl.SmWorks, 1, 7, 5), smith(impl.SmAway, 2, 0, 5), gone())
	m.Desks[3].Open = false
	for _, a := range []asked{
		ranking(2, 4), ranking(3, 4), ranking(2, 0), allowing(2, 2), allowing(2, 4), allowing(3, 8), limiting(2, 0, 9), limiting(3, 0, 9),
		limiting(0, 0, 1024), allowing(0, 255), closing(1), closing(2), opening(3),
	} {
		x := checkCode(t, "others are Turned", m, a, impl.OpDone)
		if x.Desks[0] != (impl.Desk{Open: true, Who: 1, Mark: 4}) || x.Smiths[0].State != impl.SmWaits || x.Smiths[1].State != impl.SmWorks {
			t.Errorf("%s = %+v", a.name, x)
		}
	}
	for _, a := range []asked{
		ranking(2, 6), ranking(4, 0), allowing(2, 0), allowing(2, 8), allowing(4, 1), limiting(2, 2, 1), limiting(5, 0, 9), closing(3), closing(4), opening(0), opening(-1),
	} {
		x, code := a.got(m)
		if code == impl.OpDone || !sameSmithy(x, m) || sameSmithy(x, impl.Turned(m)) {
			t.Errorf("%s = %+v, %d", a.name, x, code)
		}
	}
	m.Desks[1].Open, m.Desks[2].Open, m.Smiths[2], m.Desks[1].Who = false, false, gone(), -1
	if x := checkCode(t, "the last one", m, closing(0), impl.OpLast); sameSmithy(x, impl.Turned(m)) {
		t.Errorf("%+v", x)
	}
}

// Each bench that is closed while the one who is away from it stays away: nothing of who is away is changed.
func TestWhoIsAwayStaysAsItIs(t *testing.T) {
	for bench := range int64(3) {
		for _, had := range []int64{leastHad, -credit - 1, 0, lead + 1, mostHad} {
			for may := int64(1); may < 8; may++ {
				s := smith(impl.SmAway, bench, had, 5)
				s.May = may
				m := smithyWith(benchHall, nil, s, smith(impl.SmWorks, bench, 0, 5))
				x := checkCode(t, "away from what is closed", m, closing(bench), impl.OpDone)
				if x.Smiths[0] != s || x.Smiths[1].Bench == bench {
					t.Fatalf("Closed(%+v, %d) = %+v", m, bench, x)
				}
				for _, other := range []int64{1, 2, 4, 8, 255} {
					y := checkCode(t, "away with another May", x, allowing(0, other), impl.OpDone)
					want := s
					want.May = other
					if y.Smiths[0] != want {
						t.Fatalf("Allowed(%+v, 0, %d) = %+v", x, other, y)
					}
				}
				back := checkCode(t, "opened again", x, opening(bench), impl.OpDone)
				if back.Smiths[0] != s || back.Smiths[1] != x.Smiths[1] {
					t.Fatalf("Opened(%+v, %d) = %+v", x, bench, back)
				}
			}
		}
	}
}

// Who is not there, or what is out of range, up to the extremes.
func TestNumbersOfChangesOutOfRange(t *testing.T) {
	m := lendSmithy(middleSmithy())
	for _, n := range slices.Concat(wrongPlaces, extremes, []int64{3, 5, 6}) {
		if stateOf(m, n) == impl.SmGone {
			for _, c := range append(fewChanges(), change{n, n, n, n}) {
				checkCode(t, "nobody", m, ranking(n, c.rank), impl.OpNone)
				checkCode(t, "nobody", m, allowing(n, c.may), impl.OpNone)
				checkCode(t, "nobody", m, limiting(n, c.low, c.high), impl.OpNone)
			}
		}
		if !isFrom(n, 0, 2) {
			checkCode(t, "no bench", m, closing(n), impl.OpNone)
			checkCode(t, "no bench", m, opening(n), impl.OpNone)
		}
	}
	for _, n := range slices.Concat(noRanks, noBounds, wrongInAnyField, extremes) {
		for _, who := range []int64{0, 1, 2, 4} {
			if !isFrom(n, -5, 5) {
				checkCode(t, "no rank", m, ranking(who, n), impl.OpRange)
			}
			if !isFrom(n, 1, 255) {
				checkCode(t, "no May", m, allowing(who, n), impl.OpRange)
			}
			if !isFrom(n, 0, 1024) {
				checkCode(t, "no Low", m, limiting(who, n, 1024), impl.OpRange)
				checkCode(t, "no High", m, limiting(who, 0, n), impl.OpRange)
				checkCode(t, "no bounds", m, limiting(who, n, n), impl.OpRange)
			}
		}
	}
	for _, n := range []int64{math.MinInt64, math.MaxInt64} {
		checkCode(t, "no bounds", m, limiting(0, n, -1-n), impl.OpRange)
		checkCode(t, "all of it", m, limiting(n, n, n), impl.OpNone)
	}
}

// Every hall from one bench to eight, with none to twelve smiths of all states, ranks, guilds, bounds, Utils and Mays.
func TestManySmithiesChanged(t *testing.T) {
	l, counted := lots(16), codes{}
	for _, h := range rightHalls(t) {
		for count := range mostSmiths + 1 {
			m := nearer(&l, withTurns(&l, drawnSmithy(&l, h, count)))
			for i, x := range []impl.Smithy{m, eased(&l, m, 90), eased(&l, impl.Turned(m), 12)} {
				changes := drawnChanges(&l, 1)
				checkPromise16(t, x, counted, changes...)
				if (count+i)%3 == 0 {
					checkAsked(t, x, changesOf(x, changes...)...)
				} else {
					checkAnswers(t, x, changesOf(x, changes...)...)
				}
			}
		}
	}
	counted.checkAtLeast(t, 300, "Ranked 0", "Ranked 1", "Ranked 3", "Limited 0", "Limited 1", "Limited 3", "Allowed 0", "Allowed 1", "Allowed 2", "Allowed elsewhere",
		"Closed 1", "Closed 2", "Closed with 0", "Closed with 1", "Closed with 2", "Closed to one who may work nowhere else", "Opened 0", "Opened 1", "Opened 2")
	counted.checkAtLeast(t, 30, "Allowed 3", "Closed 5")
}

func TestRightSmithiesChanged(t *testing.T) {
	for _, m := range append(rightSmithies(), dearSmithy()) {
		checkChanges(t, m, fewChanges()...)
		checkChanges(t, impl.Turned(m), fewChanges()...)
	}
	for _, h := range rightHalls(t) {
		m, _ := impl.NewSmithy(h)
		checkChanges(t, m, fewChanges()...)
	}
}

// One thing after the other, of this chapter and of the one ahead: whatever is asked, nobody is without a bench.
func TestLongChanges(t *testing.T) {
	l, counted := lots(1616), codes{}
	for _, text := range []string{"1 50:5", "1 90:9/1 50:1", benchHall, dearHall, eightHall} {
		for range 6 {
			m := emptySmithy(text)
			m.Guilds = someGuilds()
			for range 100 {
				m = steppedAnyhow(t, &l, counted, stepped(t, &l, counted, m))
			}
		}
	}
	counted.checkAtLeast(t, 20, "Ranked 0", "Limited 0", "Allowed 0", "Allowed 2", "Allowed elsewhere", "Closed 2", "Closed 5", "Closed with 0", "Closed with 1", "Closed with 2",
		"Closed to one who may work nowhere else", "Opened 0", "Opened 2", "Come 0", "Rest 0", "Wake 0", "Leave 0")
}

// steppedAnyhow asks for one change.
func steppedAnyhow(t *testing.T, l *lots, counted codes, m impl.Smithy) impl.Smithy {
	t.Helper()
	who, bench, c := l.below(len(m.Smiths)+2)-1, l.below(len(m.Desks)), drawnChanges(l, 1)[0]
	a := ranking(who, c.rank)
	switch oneOf(l, "rank", "allow", "allow", "limit", "close", "close", "close", "open") {
	case "rank":
		counted.add("Ranked", checkRanking(t, m, who, c.rank))
	case "allow":
		a = allowing(who, c.may)
		counted[checkAllowing(t, m, who, c.may)]++
	case "limit":
		a = limiting(who, c.low, c.high)
		counted.add("Limited", checkLimiting(t, m, who, c.low, c.high))
	case "close":
		a = closing(bench)
		counted[checkClosing(t, m, bench)]++
	case "open":
		a = opening(bench)
		counted.add("Opened", checkOpening(t, m, bench))
	}
	checkAsked(t, m, a)
	x, _ := a.got(m)
	return x
}

// Each part that chapter 11 names, wrong one at a time, and all that may be wrong in whose turn it is.
func TestOfWhatIsWrongNothingIsChanged(t *testing.T) {
	for what, m := range wrongSmithies {
		checkNothingDone(t, what, m, allChanges(mostSmiths, 8, fewChanges()...)...)
	}
}

// The least and the greatest int64, and others that are right nowhere, in each number of each part and in all of them.
func TestChangesOfWrongNumbersInEveryPart(t *testing.T) {
	list := allChanges(5, 8, fewChanges()...)
	for _, n := range []int64{math.MinInt64, math.MaxInt64} {
		list = append(list, ranking(n, n), ranking(0, n), ranking(n, 0), allowing(n, n), allowing(0, n), allowing(n, 255),
			limiting(n, n, n), limiting(n, 0, 1), limiting(0, n, 1024), limiting(0, 0, n), closing(n), opening(n))
	}
	for what, m := range wrongNumbersInEveryPart {
		checkNothingDone(t, what, m, list...)
	}
}

func TestChangesOfEveryNumberALittleOff(t *testing.T) {
	for _, right := range []impl.Smithy{middleSmithy(), dearSmithy()} {
		list := changesOf(right, change{1, 6, 0, 500}, change{-2, 3, 80, 90})
		for m := range aLittleOff(right) {
			checkAnswers(t, m, list...)
		}
	}
}

func TestChangesOfWhatMeetsItsLimits(t *testing.T) {
	for i, m := range whatMeetsItsLimits {
		checkChanges(t, m, fewChanges()...)
		for _, a := range []asked{ranking(0, 5), allowing(0, 4), limiting(0, 0, 0), closing(0)} {
			if _, code := a.got(m); code != impl.OpDone {
				t.Errorf("limit %d: %s is refused by %d", i, a.name, code)
			}
		}
	}
}

func TestChangesOfEmptyAndNilLists(t *testing.T) {
	for what, m := range withListsDropped {
		checkNothingDone(t, what, m, allChanges(mostSmiths, 8, fewChanges()...)...)
	}
	for _, text := range []string{"1 1:1", benchHall, eightHall} {
		m := emptySmithy(text)
		checkChanges(t, m, fewChanges()...)
		m.Guilds, m.Smiths = nil, nil
		checkChanges(t, m, fewChanges()...)
		for _, who := range upTo(0) {
			for _, a := range []asked{ranking(who, 0), allowing(who, 1), limiting(who, 0, 1)} {
				checkCode(t, "no smiths", m, a, impl.OpNone)
			}
		}
	}
}

func TestChangesAreNewMemory(t *testing.T) {
	for _, m := range append(rightSmithies(), dearSmithy()) {
		checkWrittenNowhereElse(t, m, changesOf(m, fewChanges()...)...)
	}
}

func TestChangesShareNoPaces(t *testing.T) { checkPacesApart(t, allChanges(2, 4, fewChanges()...)...) }

func TestChangesOfSmallSmithies(t *testing.T) {
	list := allChanges(2, 2, change{5, 1, 60, 70}, change{0, 2, 0, 0})
	for m := range smallSmithies {
		if wantSmithyOk(m) {
			checkAnswers(t, m, list...)
		} else {
			checkAnswers(t, m, ranking(0, 0), allowing(1, 3), limiting(0, 0, 0), closing(0), opening(1))
		}
	}
}

// Every choice of what three want, and of where they may work, who are all at a bench that is closed.
func TestClosedWithEveryWantAndMay(t *testing.T) {
	m := smithyWith("2 60:20 100:50/1 60:25 90:48/1 110:70", nil, smith(impl.SmWorks, 0, 2, 0), smith(impl.SmWaits, 0, 1, 0), smith(impl.SmWaits, 0, 1, 0), smith(impl.SmWorks, 3, 0, 30))
	m.Desks[1].Mark, m.Desks[2].Mark, m.Desks[3].Mark = 10, 20, 30
	m.Smiths[3].Had = 30
	wants, mays := []int64{0, 20, 35, 50, 75, 90}, []int64{1, 3, 7, 13, 15}
	for pick := range 6 * 6 * 6 * 5 * 5 * 5 {
		for who := range 3 {
			m.Smiths[who].Util = wants[pick%6]
			pick /= 6
		}
		for who := range 3 {
			m.Smiths[who].May = mays[pick%5]
			pick /= 5
		}
		checkAnswers(t, m, closing(0))
	}
}
