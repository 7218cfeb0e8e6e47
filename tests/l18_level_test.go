package tests

import (
	"fmt"
	"math"
	"reflect"
	"slices"
	"testing"

	"loop.example/g00553/impl"
)

// risingHall has three benches, each in a room of its own and stronger than the one ahead; 80, 160 and 320 just fit there.
const risingHall = "1 100:1/1 50:1 200:2/1 400:3"

// mixedHall has the same benches in another order.
const mixedHall = "1 50:1 200:2/1 100:1/1 400:3"

// seat is who is found, and for which bench.
type seat struct {
	who, bench int64
	found      bool
}

func misfit(m impl.Smithy) seat {
	who, bench, found := impl.Misfit(m)
	return seat{who, bench, found}
}

func waiting(m impl.Smithy) seat {
	who, bench, found := impl.Waiting(m)
	return seat{who, bench, found}
}

// levelling is right or not by what is answered alone: it has no code.
func levelling() asked {
	return asked{
		"Levelled",
		func(m impl.Smithy) (impl.Smithy, int64) { return impl.Levelled(m), impl.OpDone },
		func(m impl.Smithy) (impl.Smithy, int64) { return wantLevelled(m), impl.OpDone },
	}
}

// wantPairs lays down all of who and of idle benches where who may work, and is there; the smithy is right.
func wantPairs(m impl.Smithy) []seat {
	list, idle := []seat{}, []int64{}
	for _, bench := range openBenches(m) {
		if wantIsIdle(m, bench) {
			idle = append(idle, bench)
		}
	}
	for who, s := range m.Smiths {
		for _, bench := range idle {
			if s.State >= 2 && s.May>>bench&1 == 1 {
				list = append(list, seat{int64(who), bench, true})
			}
		}
	}
	return list
}

// wantStrong goes by four fifths of the Force, where the program asks what FitsIn.
func wantStrong(m impl.Smithy, who, bench int64) bool {
	return wantWant(m, m.Smiths[who]) <= wantForce(m, bench)*4/5
}

func wantFirstSeat(list []seat, key func(s seat) []int64) seat {
	if len(list) == 0 {
		return seat{}
	}
	return slices.MinFunc(list, func(a, b seat) int { return slices.Compare(key(a), key(b)) })
}

// wantMisfit and wantWaiting sort what is left of all pairs, where the program leaves at the first one.
func wantMisfit(m impl.Smithy) seat {
	if !wantSmithyOk(m) {
		return seat{}
	}
	list := slices.DeleteFunc(wantPairs(m), func(s seat) bool {
		return wantStrong(m, s.who, m.Smiths[s.who].Bench) || !wantStrong(m, s.who, s.bench)
	})
	return wantFirstSeat(list, func(s seat) []int64 { return []int64{s.who, s.bench} })
}

func wantWaiting(m impl.Smithy) seat {
	if !wantSmithyOk(m) {
		return seat{}
	}
	list := slices.DeleteFunc(wantPairs(m), func(s seat) bool { return m.Smiths[s.who].State != 2 })
	return wantFirstSeat(list, func(s seat) []int64 { return []int64{s.bench, s.who} })
}

func wantLevelled(m impl.Smithy) impl.Smithy {
	if !wantSmithyOk(m) {
		return impl.Smithy{}
	}
	x := lendSmithy(m)
	for {
		s := wantMisfit(x)
		if !s.found {
			s = wantWaiting(x)
		}
		if !s.found {
			return x
		}
		wantPut(x, s.who, s.bench)
		x = wantTurned(x)
	}
}

// checkLevelAnswers holds all of the chapter against a reckoning, of any smithy at all.
func checkLevelAnswers(t *testing.T, m impl.Smithy) {
	t.Helper()
	if got, want := misfit(m), wantMisfit(m); got != want {
		t.Fatalf("Misfit(%+v) = %+v, not %+v", m, got, want)
	}
	if got, want := waiting(m), wantWaiting(m); got != want {
		t.Fatalf("Waiting(%+v) = %+v, not %+v", m, got, want)
	}
	checkAnswers(t, m, levelling())
}

// isThere asks whether who waits or works.
func isThere(s impl.Smith) bool { return s.State == impl.SmWaits || s.State == impl.SmWorks }

func fitsAlone(m impl.Smithy, who, bench int64) bool {
	return impl.FitsIn(impl.WantOf(m, who), 0, impl.ForceOf(m.Hall, bench))
}

func mayMoveTo(m impl.Smithy, who, bench int64) bool {
	return impl.IsIdle(m, bench) && impl.MayWork(m, who, bench)
}

// firstMisfit is who comes first by the words of the chapter, of a smithy that is right.
func firstMisfit(m impl.Smithy) seat {
	for who, s := range m.Smiths {
		if !isThere(s) || fitsAlone(m, int64(who), s.Bench) {
			continue
		}
		for bench := range int64(len(m.Desks)) {
			if mayMoveTo(m, int64(who), bench) && fitsAlone(m, int64(who), bench) {
				return seat{int64(who), bench, true}
			}
		}
	}
	return seat{}
}

func firstWaiting(m impl.Smithy) seat {
	for bench := range int64(len(m.Desks)) {
		for who, s := range m.Smiths {
			if s.State == impl.SmWaits && mayMoveTo(m, int64(who), bench) {
				return seat{int64(who), bench, true}
			}
		}
	}
	return seat{}
}

// movedThere is the smithy behind one who is moved, and asks for what the chapter says of that.
func movedThere(t *testing.T, m impl.Smithy, s seat) impl.Smithy {
	t.Helper()
	was := m.Smiths[s.who]
	from, to := m.Desks[was.Bench].Mark, m.Desks[s.bench].Mark
	x := lendSmithy(m)
	x.Smiths[s.who].Bench, x.Smiths[s.who].Had = s.bench, impl.Moved(was.Had, from, to)
	x = impl.Turned(x)
	is := x.Smiths[s.who]
	if !impl.SmithyOk(x) || is.State != impl.SmWorks || is.Bench != s.bench || is.Had-to != was.Had-from || x.Desks[s.bench].Who != s.who {
		t.Fatalf("%d is moved to %d, and %+v became %+v", s.who, s.bench, m, x)
	}
	return x
}

// followed moves one after the other, a Misfit ahead of one Waiting, until there is none; and whom it moved.
func followed(t *testing.T, m impl.Smithy, counted codes) (impl.Smithy, []int64) {
	t.Helper()
	x, moved := m, []int64{}
	for {
		s, kind := misfit(x), "misfit"
		if s.found && impl.ForceOf(x.Hall, s.bench) <= impl.ForceOf(x.Hall, x.Smiths[s.who].Bench) {
			t.Fatalf("%+v of %+v is at no stronger bench", s, x)
		}
		if !s.found {
			s, kind = waiting(x), "waiting"
		}
		if !s.found {
			counted[fmt.Sprint("moved ", min(len(moved), 4))]++
			return x, moved
		}
		left := x.Smiths[s.who].Bench
		x = movedThere(t, x, s)
		if kind == "waiting" && impl.IsIdle(x, left) {
			t.Fatalf("%d waited at %d, and nobody works there: %+v", s.who, left, x)
		}
		if moved = append(moved, s.who); len(moved) > 2*mostSmiths {
			t.Fatalf("it does not end: %+v", m)
		}
		counted[kind]++
	}
}

// checkAllElseStays asks that who was not moved is where it was, and that nothing else changed but whose turn it is.
func checkAllElseStays(t *testing.T, m, x impl.Smithy, moved []int64) {
	t.Helper()
	was := lendSmithy(m)
	for _, who := range moved {
		if !isThere(m.Smiths[who]) {
			t.Fatalf("%d was moved: %+v", who, m)
		}
		was.Smiths[who].Bench, was.Smiths[who].Had = x.Smiths[who].Bench, x.Smiths[who].Had
	}
	checkOnlyTurnsChange(t, was, x)
	for bench, d := range x.Desks {
		if d.Mark < m.Desks[bench].Mark {
			t.Fatalf("the mark of %d fell: %+v became %+v", bench, m, x)
		}
	}
	if again := impl.Turned(x); len(moved) > 0 && !sameSmithy(again, x) {
		t.Fatalf("%+v is not Turned: %+v", x, again)
	}
	if len(moved) == 0 && !sameSmithy(x, m) {
		t.Fatalf("nobody is moved, and %+v became %+v", m, x)
	}
}

// checkPromise18 is the promise by its words, of a smithy that is right.
func checkPromise18(t *testing.T, m impl.Smithy, counted codes) {
	t.Helper()
	if !impl.SmithyOk(m) {
		t.Fatalf("not SmithyOk: %+v", m)
	}
	if got, want := misfit(m), firstMisfit(m); got != want {
		t.Fatalf("Misfit(%+v) = %+v, not %+v", m, got, want)
	}
	if got, want := waiting(m), firstWaiting(m); got != want {
		t.Fatalf("Waiting(%+v) = %+v, not %+v", m, got, want)
	}
	x := impl.Levelled(m)
	if !impl.SmithyOk(x) || firstMisfit(x) != (seat{}) || firstWaiting(x) != (seat{}) {
		t.Fatalf("Levelled(%+v) = %+v, with %+v and %+v", m, x, firstMisfit(x), firstWaiting(x))
	}
	if twice := impl.Levelled(x); !sameSmithy(twice, x) {
		t.Fatalf("Levelled twice, %+v became %+v", x, twice)
	}
	want, moved := followed(t, m, counted)
	if !sameSmithy(x, want) {
		t.Fatalf("Levelled(%+v) = %+v, not %+v", m, x, want)
	}
	checkAllElseStays(t, m, x, moved)
}

// checkLevel asks all of the chapter, as the smithy is and as it is lent, and watches all memory.
func checkLevel(t *testing.T, m impl.Smithy) {
	t.Helper()
	checkAsked(t, m, levelling())
	for _, given := range []impl.Smithy{m, lendSmithy(m)} {
		before := toTheBrim(given)
		checkLevelAnswers(t, given)
		if after := toTheBrim(given); !reflect.DeepEqual(after, before) {
			t.Fatalf("%+v became %+v", before, after)
		}
	}
	if impl.SmithyOk(m) {
		checkPromise18(t, m, codes{})
	}
}

// checkNoLevel asks for the answers that the chapter names for a smithy that is not right.
func checkNoLevel(t *testing.T, what string, m impl.Smithy) {
	t.Helper()
	lent := lendSmithy(m)
	before := toTheBrim(lent)
	if impl.SmithyOk(lent) {
		t.Fatalf("SmithyOk with %s: %+v", what, m)
	}
	if got := misfit(lent); got != (seat{}) {
		t.Fatalf("Misfit with %s = %+v: %+v", what, got, m)
	}
	if got := waiting(lent); got != (seat{}) {
		t.Fatalf("Waiting with %s = %+v: %+v", what, got, m)
	}
	if got := impl.Levelled(lent); !sameSmithy(got, impl.Smithy{}) {
		t.Fatalf("Levelled with %s = %+v: %+v", what, got, m)
	}
	if after := toTheBrim(lent); !reflect.DeepEqual(after, before) {
		t.Fatalf("%+v became %+v", before, after)
	}
}

// with is that smithy with something changed.
func with(m impl.Smithy, change func(m *impl.Smithy)) impl.Smithy {
	x := lendSmithy(m)
	change(&x)
	return x
}

// withClosed is that smithy with those benches closed.
func withClosed(m impl.Smithy, benches ...int64) impl.Smithy {
	return with(m, func(m *impl.Smithy) {
		for _, bench := range benches {
			m.Desks[bench].Open = false
		}
	})
}

func works(bench, util int64) impl.Smith { return smith(impl.SmWorks, bench, 0, util) }

func waits(bench, util int64) impl.Smith { return smith(impl.SmWaits, bench, 0, util) }

func away(bench, util int64) impl.Smith { return smith(impl.SmAway, bench, 0, util) }

func rising(smiths ...impl.Smith) impl.Smithy { return smithyWith(risingHall, nil, smiths...) }

func TestMisfitCases(t *testing.T) {
	guilds := []impl.Guild{guild(-1, 0, 80), guild(-1, 90, 1024)}
	none := seat{}
	for _, k := range []struct {
		what string
		m    impl.Smithy
		want seat
	}{
		{"nobody", rising(), none},
		{"one who wants nothing", rising(works(0, 0)), none},
		{"one who just fits in", rising(works(0, 80)), none},
		{"one too much", rising(works(0, 81)), seat{0, 1, true}},
		{"as much as fits in the next bench", rising(works(0, 160)), seat{0, 1, true}},
		{"one more than fits in the next bench", rising(works(0, 161)), seat{0, 2, true}},
		{"as much as fits in the strongest bench", rising(works(0, 320)), seat{0, 2, true}},
		{"one more than fits in the strongest bench", rising(works(0, 321)), none},
		{"all there may be", rising(works(0, 1024)), none},
		{"one who just fits in the second bench", rising(works(1, 160)), none},
		{"one too much at the second bench", rising(works(1, 161)), seat{0, 2, true}},
		{"one who just fits in the strongest bench", rising(works(2, 320)), none},
		{"one at the strongest bench who does not fit in even there", rising(works(2, 321)), none},
		{"one at the strongest bench who wants all there may be", rising(works(2, 1024)), none},
		{"a strong bench that is not idle", rising(works(0, 81), works(1, 0)), seat{0, 2, true}},
		{"a strong bench that is closed", withClosed(rising(works(0, 81)), 1), seat{0, 2, true}},
		{"a strong bench where it may not work", withMay(rising(works(0, 81)), 0, 5), seat{0, 2, true}},
		{"both strong benches not idle", rising(works(0, 81), works(1, 0), works(2, 0)), none},
		{"both strong benches closed", withClosed(rising(works(0, 81)), 1, 2), none},
		{"one not idle and one closed", withClosed(rising(works(0, 81), works(1, 5)), 2), none},
		{"one who may work at its own bench alone", withMay(rising(works(0, 81)), 0, 1), none},
		{"one who may work at its own bench and at no other one there is", withMay(rising(works(0, 81)), 0, 249), none},
		{"an idle bench that is too weak", rising(works(1, 161), works(2, 0)), none},
		{"who waits at a bench that is too weak", rising(works(0, 80), waits(0, 81)), seat{1, 1, true}},
		{"who waits and who works at a bench that is too weak", rising(works(0, 81), waits(0, 300)), seat{0, 1, true}},
		{"who waits comes first, though another one works", rising(waits(0, 300), works(0, 81)), seat{0, 2, true}},
		{"the first one has no bench, the second one has", withMay(rising(works(0, 81), waits(0, 81)), 0, 1), seat{1, 1, true}},
		{"the first one fits in nowhere, the second one does", rising(works(0, 321), works(1, 200)), seat{1, 2, true}},
		{"each fits in alone, both are too much", rising(works(0, 80), waits(0, 80)), none},
		{"both are too much where it is too weak, and another one is there", rising(works(0, 81), waits(0, 80)), seat{0, 1, true}},
		{"who is away wants too much", rising(away(0, 200)), none},
		{"who is away wants too much, and another one does, too", rising(away(0, 200), works(0, 100)), seat{1, 1, true}},
		{"one is gone, and one is too much", rising(gone(), works(0, 100)), seat{1, 1, true}},
		{"a guild that lets none want too much", smithyWith(risingHall, guilds, with(rising(works(0, 700)), func(m *impl.Smithy) { m.Smiths[0].Guild = 0 }).Smiths...), none},
		{"a guild that lets all want too much", smithyWith(risingHall, guilds, with(rising(works(0, 0)), func(m *impl.Smithy) { m.Smiths[0].Guild = 1 }).Smiths...), seat{0, 1, true}},
		{"a High of its own", with(rising(works(0, 700)), func(m *impl.Smithy) { m.Smiths[0].High = 80 }), none},
		{"a Low of its own", with(rising(works(0, 0)), func(m *impl.Smithy) { m.Smiths[0].Low = 81 }), seat{0, 1, true}},
		{"a stronger bench ahead of its own", smithyWith(mixedHall, nil, works(1, 81)), seat{0, 0, true}},
		{"a stronger bench ahead of its own that is too weak", smithyWith(mixedHall, nil, works(1, 161)), seat{0, 2, true}},
		{"benches that are as strong", smithyWith("4 100:1", nil, works(1, 81)), none},
		{"one bench alone", smithyWith("1 100:1", nil, works(0, 81)), none},
	} {
		if got := misfit(k.m); got != k.want {
			t.Errorf("%s: Misfit = %+v, not %+v", k.what, got, k.want)
		}
		checkLevel(t, k.m)
	}
}

func TestWaitingCases(t *testing.T) {
	none := seat{}
	two := rising(works(0, 0), waits(0, 0))
	for _, k := range []struct {
		what string
		m    impl.Smithy
		want seat
	}{
		{"nobody", rising(), none},
		{"one who works", rising(works(0, 0)), none},
		{"one at each bench", rising(works(0, 0), works(1, 0), works(2, 0)), none},
		{"all away", rising(away(0, 0), away(1, 9), away(1, 9)), none},
		{"one who waits", two, seat{1, 1, true}},
		{"who waits is ahead of who works", rising(waits(0, 0), works(0, 0)), seat{0, 1, true}},
		{"the first bench is closed", withClosed(two, 1), seat{1, 2, true}},
		{"all idle benches are closed", withClosed(two, 1, 2), none},
		{"the first bench is not idle", rising(works(0, 0), waits(0, 0), works(1, 0)), seat{1, 2, true}},
		{"it may not work at the first bench", withMay(two, 1, 5), seat{1, 2, true}},
		{"it may work at its own bench alone", withMay(two, 1, 1), none},
		{"it may work at its own bench and at no other one there is", withMay(two, 1, 249), none},
		{"no bench is idle", rising(works(0, 0), waits(0, 0), works(1, 0), waits(1, 0), works(2, 0)), none},
		{"an idle bench ahead of its own", rising(works(1, 0), waits(1, 0)), seat{1, 0, true}},
		{"an idle bench that is too weak", rising(works(2, 0), waits(2, 300)), seat{1, 0, true}},
		{"two who wait", rising(works(0, 0), waits(0, 0), waits(0, 0)), seat{1, 1, true}},
		{"two who wait, and the first one may not work there", withMay(rising(works(0, 0), waits(0, 0), waits(0, 0)), 1, 1), seat{2, 1, true}},
		{"two who wait at two benches", smithyWith("4 9:9", nil, works(2, 0), waits(2, 0), works(1, 0), waits(1, 0)), seat{1, 0, true}},
		{"the first one may work at the last bench, the second one at the first idle one", withMay(withMay(rising(works(0, 0), waits(0, 0), waits(0, 0)), 1, 5), 2, 3), seat{2, 1, true}},
		{"who may work there works, and who waits may not", withMay(two, 1, 1), none},
		{"one who had least waits, for it is not Turned", rising(smith(impl.SmWorks, 0, 9, 0), smith(impl.SmWaits, 0, 4, 0)), seat{1, 1, true}},
		{"one is gone and one away ahead of who waits", rising(gone(), away(2, 0), works(0, 0), waits(0, 0)), seat{3, 1, true}},
		{"one bench alone", smithyWith("1 100:1", nil, works(0, 0), waits(0, 0)), none},
	} {
		if got := waiting(k.m); got != k.want {
			t.Errorf("%s: Waiting = %+v, not %+v", k.what, got, k.want)
		}
		checkLevel(t, k.m)
	}
}

// checkBenches asks where each one is, in order; -1 is asked of who is not there.
func checkBenches(t *testing.T, what string, x impl.Smithy, benches ...int64) {
	t.Helper()
	got := []int64{}
	for _, s := range x.Smiths {
		if isThere(s) {
			got = append(got, s.Bench)
		} else {
			got = append(got, -1)
		}
	}
	if !slices.Equal(got, benches) || !impl.SmithyOk(x) {
		t.Errorf("%s: they are at %v, not %v: %+v", what, got, benches, x)
	}
}

func TestLevelledCases(t *testing.T) {
	for _, k := range []struct {
		what    string
		m       impl.Smithy
		benches []int64
		working []int64
	}{
		{"nobody", rising(), nil, []int64{-1, -1, -1}},
		{"all away", rising(away(0, 200), away(0, 9), gone()), []int64{-1, -1, -1}, []int64{-1, -1, -1}},
		{"levelled already", rising(works(0, 80), works(1, 160), works(2, 321)), []int64{0, 1, 2}, []int64{0, 1, 2}},
		{"one too much", rising(works(0, 81)), []int64{1}, []int64{-1, 0, -1}},
		{"one who waits", rising(works(0, 0), waits(0, 0)), []int64{0, 1}, []int64{0, 1, -1}},
		{"a Misfit who works goes first, and then nobody waits", rising(works(0, 300), waits(0, 0)), []int64{2, 0}, []int64{1, -1, 0}},
		{"a Misfit who waits goes where another one would have gone", rising(works(0, 0), waits(0, 0), waits(0, 100)), []int64{0, 2, 1}, []int64{0, 2, 1}},
		{"a Misfit leaves a bench to one who waits elsewhere", rising(works(0, 81), works(1, 0), waits(1, 0)), []int64{2, 1, 0}, []int64{2, 1, 0}},
		{"two that are too much, one after the other", rising(works(0, 81), works(1, 161)), []int64{2, 1}, []int64{-1, 1, 0}},
		{"the weak one makes way", rising(works(1, 161), works(0, 81)), []int64{2, 1}, []int64{-1, 1, 0}},
		{"who waited is at a bench too weak", rising(works(2, 0), waits(2, 300)), []int64{2, 0}, []int64{1, -1, 0}},
		{"who waited is at a bench too weak, and then at a stronger one", rising(works(2, 0), waits(2, 100)), []int64{2, 1}, []int64{-1, 1, 0}},
		{"who waited is at a bench too weak, and stays there", withMay(rising(works(2, 0), waits(2, 100)), 1, 5), []int64{2, 0}, []int64{1, -1, 0}},
		{"three that wait", smithyWith("4 9:9", nil, works(2, 0), waits(2, 0), waits(2, 0), waits(2, 0)), []int64{2, 0, 1, 3}, []int64{1, 2, 0, 3}},
		{"more wait than there are benches", rising(works(1, 0), waits(1, 0), waits(1, 0), waits(1, 0)), []int64{1, 0, 2, 1}, []int64{1, 0, 2}},
		{"the given one", smithyWith(benchHall, nil, works(0, 700), withMay(rising(waits(0, 10)), 0, 3).Smiths[0], withMay(rising(waits(0, 10)), 0, 1).Smiths[0]), []int64{2, 0, 0}, []int64{1, -1, 0}},
		{"the closed ones stay closed", withClosed(rising(works(0, 81), waits(0, 0)), 1), []int64{2, 0}, []int64{1, -1, 0}},
	} {
		x := impl.Levelled(k.m)
		checkBenches(t, k.what, x, k.benches...)
		if w := impl.Working(x); !slices.Equal(w, k.working) {
			t.Errorf("%s: %v work, not %v", k.what, w, k.working)
		}
		checkLevel(t, k.m)
	}
}

// The one that is put ahead of all others is a Misfit where there is one, be it the last smith or the last bench.
func TestAMisfitGoesAheadOfOneWaiting(t *testing.T) {
	m := rising(works(0, 0), waits(0, 0), works(1, 200))
	if got, other := misfit(m), waiting(m); got != (seat{2, 2, true}) || other != (seat{1, 2, true}) {
		t.Fatalf("%+v and %+v", got, other)
	}
	x := impl.Levelled(m)
	checkBenches(t, "the strong one goes first", x, 0, 1, 2)
	checkLevel(t, m)
	// Where it may not work there the other one has that bench, and stays at it.
	m = withMay(m, 2, 3)
	checkBenches(t, "no Misfit", impl.Levelled(m), 0, 2, 1)
	checkLevel(t, m)
	// Two Misfits and two Waiting, each of whom would do for both idle benches.
	m = smithyWith("4 100:1/4 400:3", nil, works(0, 0), waits(0, 0), waits(0, 90), works(1, 0), waits(1, 0), waits(1, 90), works(2, 0), works(3, 0), works(4, 0), works(5, 0))
	checkBenches(t, "two and two", impl.Levelled(m), 0, 0, 6, 1, 1, 7, 2, 3, 4, 5)
	checkLevel(t, m)
}

// All of it is Turned between one who is put and the next one, so that the next one leaves another Mark.
func TestItIsTurnedBehindEachOne(t *testing.T) {
	m := smithyWith("2 100:1/1 400:3", nil, smith(impl.SmWorks, 0, 0, 300), smith(impl.SmWaits, 0, 1000, 5), smith(impl.SmWaits, 0, 1500, 5))
	m.Desks[0].Mark, m.Desks[1].Mark, m.Desks[2].Mark = -7, 70, 40
	x := impl.Levelled(m)
	checkAt(t, "who was second has its turn", x, 0, 1000, entry(1000, 1))
	checkAt(t, "the third one leaves the Mark of the second", x, 1, 570, entry(570, 2))
	checkAt(t, "the first one leaves the Mark that was there", x, 2, 47, entry(47, 0))
	checkLevel(t, m)
	// The Mark rises behind the second one alone, for the first one had more than the second one had.
	m = smithyWith("2 100:1/2 400:3", nil, smith(impl.SmWorks, 0, 30, 90), smith(impl.SmWaits, 0, 10, 95), smith(impl.SmWaits, 0, 50, 5), smith(impl.SmWaits, 0, 80, 5))
	m.Desks[2].Mark, m.Desks[3].Mark = 200, 300
	x = impl.Levelled(m)
	checkAt(t, "the first one leaves a Mark of 0", x, 2, 230, entry(230, 0))
	checkAt(t, "the second one leaves a Mark of 10", x, 3, 300, entry(300, 1))
	checkAt(t, "the third one has its turn", x, 0, 50, entry(50, 2))
	checkAt(t, "the fourth one leaves a Mark of 50", x, 1, 30, entry(30, 3))
	checkLevel(t, m)
}

// Where nobody is put all is as it was, be it Turned or not; where one is, all benches are Turned.
func TestWhereNobodyIsPutItIsNotTurned(t *testing.T) {
	m := withClosed(rising(smith(impl.SmWorks, 0, 9, 5), smith(impl.SmWaits, 0, 4, 5), smith(impl.SmWorks, 2, 8, 5), smith(impl.SmWaits, 2, 6, 5)), 1)
	if x := impl.Levelled(m); !sameSmithy(x, m) || sameSmithy(x, impl.Turned(m)) {
		t.Fatalf("Levelled(%+v) = %+v", m, x)
	}
	if x := impl.Levelled(impl.Turned(m)); !sameSmithy(x, impl.Turned(m)) {
		t.Fatalf("Levelled(%+v) = %+v", impl.Turned(m), x)
	}
	checkLevel(t, m)
	// One more bench, and who waits goes there, though it had least of all at its own one.
	m.Desks[1].Open, m.Smiths[3].May = true, 4
	x := impl.Levelled(m)
	checkAt(t, "who worked stays", x, 0, 9, entry(9, 0))
	checkAt(t, "who waited is put", x, 1, 4, entry(4, 1))
	checkAt(t, "the others are Turned", x, 2, 6, entry(6, 3), entry(8, 2))
	checkLevel(t, m)
}

// What each wants at its limits, for every Force: the own bench's and the other one's, be the Pace now what it may.
func TestWhatJustFitsAtEveryForce(t *testing.T) {
	for force := int64(1); force <= 1023; force += 1 + force/9 {
		most := greatestNeed(impl.Pace{Force: force})
		for _, k := range []struct {
			text        string
			own, strong int64
		}{
			{fmt.Sprintf("1 %d:5/1 1024:9", force), 0, 1},
			{fmt.Sprintf("1 1024:9/1 %d:5", force), 1, 0},
			{fmt.Sprintf("1 1024:9/2 %d:5", force), 2, 0},
		} {
			for want := max(most-2, 0); want <= min(most+2, 1024); want++ {
				for state := int64(impl.SmWaits); state <= impl.SmWorks; state++ {
					checkJustFitsAlone(t, smithyWith(k.text, nil, smith(state, k.own, 0, want)), most, k.strong)
				}
			}
		}
		checkOtherJustFits(t, force, most)
	}
}

// checkJustFitsAlone has one at a bench where so much just fits in; another one works there where that one waits.
func checkJustFitsAlone(t *testing.T, m impl.Smithy, most, strong int64) {
	t.Helper()
	s, want := m.Smiths[0], seat{}
	if s.State == impl.SmWaits {
		m.Smiths, m.Desks[s.Bench].Who = append(m.Smiths, works(s.Bench, 0)), 1
	}
	if most < s.Util && s.Util <= 819 {
		want = seat{0, strong, true}
	}
	if got := misfit(m); got != want {
		t.Fatalf("Misfit(%+v) = %+v, not %+v", m, got, want)
	}
	checkLevelAnswers(t, m)
}

// checkOtherJustFits has one at a bench that is too weak for it, and two that may be strong enough, whatever Pace they have.
func checkOtherJustFits(t *testing.T, force, most int64) {
	t.Helper()
	text := fmt.Sprintf("1 1:1/1 %d:9/1 %d:3 1024:9", force, max(force/2, 1))
	for want := max(most-2, 1); want <= min(most+2, 819); want++ {
		for pace := range int64(2) {
			m := withPace(smithyWith(text, nil, works(0, want)), 2, pace)
			bench := int64(1)
			if want > most {
				bench = 2
			}
			if got := misfit(m); got != (seat{0, bench, true}) {
				t.Fatalf("Misfit(%+v) = %+v, and %d fits in", m, got, most)
			}
			checkLevelAnswers(t, m)
		}
	}
}

// The Pace that a room has now is of no matter, nor is the coal.
func TestLevelsHangOnNoPace(t *testing.T) {
	for _, m := range append(rightSmithies(), dearSmithy()) {
		for room, r := range m.Hall.Rooms {
			for pace := range int64(len(r.Paces)) {
				x := withPace(m, int64(room), pace)
				if misfit(x) != misfit(m) || waiting(x) != waiting(m) || !sameSmithy(impl.Levelled(x), withPace(impl.Levelled(m), int64(room), pace)) {
					t.Fatalf("Levelled(%+v) = %+v", x, impl.Levelled(x))
				}
			}
		}
	}
}

// Who had all that the band has is as far ahead of any Mark there may be, and nobody is out of it.
func TestWhoIsLevelledStaysInTheBand(t *testing.T) {
	marks := []int64{-mostMark, -mostMark + 1, -lead, -1, 0, 1, credit, billion, mostMark - 1, mostMark}
	for _, from := range marks {
		for _, to := range marks {
			for _, ahead := range []int64{-credit, -credit + 1, -1, 0, 1, lead - 1, lead} {
				for _, state := range []int64{impl.SmWaits, impl.SmWorks} {
					for _, util := range []int64{0, 81} {
						checkLevelledInTheBand(t, from, to, ahead, state, util)
					}
				}
			}
		}
	}
}

func checkLevelledInTheBand(t *testing.T, from, to, ahead, state, util int64) {
	t.Helper()
	m := smithyWith("1 100:1/1 400:3", nil, smith(state, 0, from+ahead, util), smith(5-state, 0, from, 5))
	m.Desks[0].Mark, m.Desks[1].Mark = from, to
	goes, had := 0, to+ahead
	if util == 0 && state == impl.SmWorks {
		goes, had = 1, to
	}
	x := impl.Levelled(m)
	if s := x.Smiths[goes]; s.Bench != 1 || s.Had != had || s.State != impl.SmWorks || x.Desks[1].Mark != min(max(to, had), mostMark) {
		t.Fatalf("Levelled(%+v) = %+v", m, x)
	}
	if stays := x.Smiths[1-goes]; stays.Bench != 0 || stays.Had != m.Smiths[1-goes].Had || stays.State != impl.SmWorks {
		t.Fatalf("Levelled(%+v) = %+v", m, x)
	}
	checkPromise18(t, m, codes{})
	checkLevelAnswers(t, m)
}

// Every choice of benches that are Open, with every May of one who waits and of one who is at a bench too weak.
func TestEveryOpenBenchAndEveryMayLevelled(t *testing.T) {
	const text = "2 100:1/3 200:2/3 50:1 400:3"
	for own := range int64(2) {
		for open := int64(1); open < 256; open += 1 + open/7 {
			for may := int64(1); may < 256; may += 1 + may/11 {
				waiter, strong := waits(own, 0), works(own, 130)
				waiter.May, strong.May = may|1<<own, may|1<<own
				m := smithyWith(text, nil, strong, waiter)
				for bench := range m.Desks {
					m.Desks[bench].Open = (open|1<<own)>>bench&1 == 1
				}
				idle := impl.Members(open & may &^ (1 << own))
				want, other := seat{}, seat{}
				if len(idle) > 0 {
					want = seat{1, idle[0], true}
				}
				if i := slices.IndexFunc(idle, func(bench int64) bool { return bench > 1 }); i >= 0 {
					other = seat{0, idle[i], true}
				}
				if waiting(m) != want || misfit(m) != other {
					t.Fatalf("Waiting and Misfit of %+v are %+v and %+v, not %+v and %+v", m, waiting(m), misfit(m), want, other)
				}
				checkLevelAnswers(t, m)
			}
		}
	}
}

// Each one of up to twelve is the first one at a bench too weak, and the first one who waits.
func TestEachOneIsTheFirst(t *testing.T) {
	for count := 1; count <= mostSmiths; count++ {
		for first := range count {
			for _, ahead := range []impl.Smith{gone(), away(0, 300), withMay(rising(waits(0, 300)), 0, 1).Smiths[0]} {
				smiths := slices.Repeat([]impl.Smith{ahead}, first)
				for len(smiths) < count {
					smiths = append(smiths, waits(0, 300))
				}
				smiths[count-1].State = impl.SmWorks
				m := rising(smiths...)
				if got := misfit(m); got != (seat{int64(first), 2, true}) {
					t.Fatalf("Misfit(%+v) = %+v", m, got)
				}
				want := seat{int64(first), 1, true}
				if first == count-1 {
					want = seat{}
				}
				if got := waiting(m); got != want {
					t.Fatalf("Waiting(%+v) = %+v", m, got)
				}
				checkPromise18(t, m, codes{})
				checkLevelAnswers(t, m)
			}
		}
	}
}

// Twelve at one bench of eight: as many are put as there are idle benches, one after the other.
func TestAsManyArePutAsThereAreBenches(t *testing.T) {
	for _, text := range []string{"1 9:9", "4 50:1/4 60:2", benchHall, eightHall, "1 100:1/1 200:2/1 300:3"} {
		benches := len(emptySmithy(text).Desks)
		for own := range int64(benches) {
			for count := 1; count <= mostSmiths; count++ {
				smiths := slices.Repeat([]impl.Smith{waits(own, 0)}, count)
				smiths[count/2].State = impl.SmWorks
				m := smithyWith(text, nil, smiths...)
				x := impl.Levelled(m)
				at := 0
				for bench := range x.Desks {
					if n := len(impl.At(x, int64(bench))); n > 0 {
						at++
					}
				}
				if at != min(benches, count) || len(impl.At(x, own)) != max(1, count-benches+1) {
					t.Fatalf("%d at %d: Levelled(%+v) = %+v", count, own, m, x)
				}
				checkLevel(t, m)
			}
		}
	}
}

// gathered has all who are there at one bench or at two, most of them free to work anywhere, so that there is somewhere
// to go.
func gathered(l *lots, m impl.Smithy) impl.Smithy {
	x, open := lendSmithy(m), openBenches(m)
	benches := []int64{oneOf(l, open...), oneOf(l, open...)}
	for who, s := range x.Smiths {
		if isThere(s) {
			wantPut(x, int64(who), oneOf(l, benches...))
			x.Smiths[who].May = oneOf(l, 255, 255, s.May) | setOf(benches...)
		}
	}
	return withTurns(l, x)
}

// checkLevelledNowAndThen asks for the promise, and for all else of each third one.
func checkLevelledNowAndThen(t *testing.T, m impl.Smithy, turn int, counted codes) {
	t.Helper()
	checkPromise18(t, m, counted)
	if turn%3 == 0 {
		checkLevel(t, m)
	} else {
		checkLevelAnswers(t, m)
	}
}

// Every hall from one bench to eight, with none to twelve smiths of all states, ranks, guilds, bounds, Utils and Mays, and
// rooms at each of their Paces.
func TestManySmithiesLevelled(t *testing.T) {
	l, counted := lots(18), codes{}
	for _, h := range rightHalls(t) {
		for count := range mostSmiths + 1 {
			m := withTurns(&l, drawnSmithy(&l, h, count))
			for i, x := range []impl.Smithy{m, eased(&l, impl.Turned(m), 300), gathered(&l, m), impl.Turned(gathered(&l, m)), gathered(&l, eased(&l, m, 900))} {
				checkLevelledNowAndThen(t, x, count+i, counted)
			}
		}
	}
	counted.checkAtLeast(t, 200, "misfit", "waiting", "moved 0", "moved 1", "moved 2", "moved 3", "moved 4")
}

// Halls whose benches are all unlike, so that one after the other is moved up.
func TestManyUnlikeBenchesLevelled(t *testing.T) {
	l, counted := lots(181), codes{}
	for _, text := range []string{risingHall, mixedHall, dearHall, eightHall, "3 40:1/3 120:2/2 360:3", "2 900:9/4 30:1 90:2/2 300:3", "1 1024:9/3 8:1/4 64:2"} {
		for turn := range 300 {
			m := withTurns(&l, drawnSmithy(&l, mustHall(text), turn%mostSmiths+1))
			checkLevelledNowAndThen(t, eased(&l, m, 400), turn, counted)
			checkLevelledNowAndThen(t, gathered(&l, eased(&l, m, 400)), turn, counted)
		}
	}
	counted.checkAtLeast(t, 200, "misfit", "waiting", "moved 0", "moved 1", "moved 2", "moved 3", "moved 4")
}

func TestRightSmithiesLevelled(t *testing.T) {
	for _, m := range append(rightSmithies(), dearSmithy()) {
		checkLevel(t, m)
		checkLevel(t, impl.Turned(m))
	}
	for _, h := range rightHalls(t) {
		m, _ := impl.NewSmithy(h)
		checkLevel(t, m)
		if x := impl.Levelled(m); !sameSmithy(x, m) || misfit(m) != (seat{}) || waiting(m) != (seat{}) {
			t.Fatalf("Levelled(%+v) = %+v", m, x)
		}
	}
}

// One thing after the other, of this chapter and of all three ahead, levelled now and then.
func TestLongRunsLevelled(t *testing.T) {
	l, counted := lots(1818), codes{}
	for _, text := range []string{"1 50:5", "1 90:9 200:20/1 50:1 700:2 1024:3", benchHall, dearHall, eightHall} {
		for range 5 {
			m := emptySmithy(text)
			m.Guilds = someGuilds()
			for range 80 {
				m = steppedInTime(t, &l, counted, steppedAnyhow(t, &l, counted, stepped(t, &l, counted, m)))
				checkPromise18(t, m, counted)
				checkAsked(t, m, levelling())
				if l.below(3) > 0 {
					m = impl.Levelled(m)
				}
			}
		}
	}
	counted.checkAtLeast(t, 40, "misfit", "waiting", "moved 0", "moved 1")
}

// Each part that chapter 11 names, wrong one at a time, and all that may be wrong in whose turn it is.
func TestWhatIsWrongIsNotLevelled(t *testing.T) {
	for what, m := range wrongSmithies {
		checkNoLevel(t, what, m)
	}
	// The same of smithies in which there is somebody to be put.
	waiter := with(middleSmithy(), func(m *impl.Smithy) { m.Desks[1].Open, m.Smiths[1].May = true, 3 })
	tooStrong := with(middleSmithy(), func(m *impl.Smithy) { m.Smiths[4].State, m.Desks[2].Who = impl.SmAway, -1 })
	if waiting(waiter) != (seat{1, 1, true}) || misfit(tooStrong) != (seat{0, 2, true}) {
		t.Fatalf("%+v and %+v", waiting(waiter), misfit(tooStrong))
	}
	for _, right := range []impl.Smithy{waiter, tooStrong} {
		for _, k := range slices.Concat(spoiledParts(), spoiledSmiths(), spoiledPlaces(), spoiledTurns()) {
			// What spoils the one may leave the other right.
			if m := with(right, k.change); !impl.SmithyOk(m) {
				checkNoLevel(t, k.what, m)
			}
		}
	}
}

// The least and the greatest int64, and others that are right nowhere, in each number of each part and in all of them.
func TestLevelsOfWrongNumbersInEveryPart(t *testing.T) {
	for what, m := range wrongNumbersInEveryPart {
		checkNoLevel(t, what, m)
	}
	for _, n := range []int64{math.MinInt64, math.MaxInt64} {
		right := rising(works(0, 300), waits(0, 5), works(1, 5))
		for i, number := range numbersOf(&right) {
			checkNoLevel(t, fmt.Sprint(n, " as ", number.name), with(right, func(m *impl.Smithy) { *numbersOf(m)[i].at = n }))
		}
	}
}

func TestLevelsOfEveryNumberALittleOff(t *testing.T) {
	for _, right := range []impl.Smithy{middleSmithy(), dearSmithy(), rising(works(0, 81), waits(0, 5), works(1, 161), waits(1, 9))} {
		for m := range aLittleOff(right) {
			checkLevelAnswers(t, m)
		}
	}
}

func TestLevelsOfWhatMeetsItsLimits(t *testing.T) {
	for i, m := range whatMeetsItsLimits {
		checkLevel(t, m)
		if !impl.SmithyOk(impl.Levelled(m)) {
			t.Errorf("limit %d: Levelled(%+v) = %+v", i, m, impl.Levelled(m))
		}
	}
	for _, now := range []int64{0, mostNow} {
		m := with(rising(works(0, 300), waits(0, 5), away(1, 9)), func(m *impl.Smithy) { m.Now = now })
		m.Smiths[0].Work, m.Smiths[0].Carry, m.Smiths[2].Had = mostWork, 1023, mostHad
		m.Smiths = append(m.Smiths, make([]impl.Smith, mostSmiths-3)...)
		checkLevel(t, m)
		checkBenches(t, "limits", impl.Levelled(m), slices.Concat([]int64{2, 0}, slices.Repeat([]int64{-1}, mostSmiths-2))...)
	}
}

func TestLevelsOfEmptyAndNilLists(t *testing.T) {
	for what, m := range withListsDropped {
		checkNoLevel(t, what, m)
	}
	for _, text := range []string{"1 1:1", benchHall, eightHall} {
		m := emptySmithy(text)
		checkLevel(t, m)
		m.Guilds, m.Smiths = nil, nil
		checkLevel(t, m)
		if x := impl.Levelled(m); !sameSmithy(x, m) {
			t.Errorf("%+v became %+v", m, x)
		}
	}
}

func TestLevelledIsNewMemory(t *testing.T) {
	list := append(rightSmithies(), dearSmithy(), rising(works(0, 300), waits(0, 5), waits(0, 5)), rising(works(0, 80)))
	for _, m := range list {
		checkWrittenNowhereElse(t, m, levelling())
		checkWrittenNowhereElse(t, impl.Levelled(m), levelling())
	}
	checkPacesApart(t, levelling())
	m := withPacesShared()
	m.Smiths[0].State, m.Smiths[0].Bench = impl.SmWaits, 1
	checkAnswers(t, m, levelling())
	checkNoneShared(t, impl.Levelled(m))
}

func TestLevelsOfSmallSmithies(t *testing.T) {
	for m := range smallSmithies {
		checkLevelAnswers(t, m)
	}
}

// Three smiths of every kind at three unlike benches: where each is, what it wants and where it may work.
func TestEveryThreeSmithsLevelled(t *testing.T) {
	kinds := []impl.Smith{gone(), away(0, 200)}
	for bench := range int64(3) {
		for may := int64(1); may < 8; may++ {
			for _, util := range []int64{80, 160, 320} {
				if s := waits(bench, util); impl.InSet(may, bench) {
					s.May = may
					kinds = append(kinds, s)
				}
			}
		}
	}
	counted := codes{}
	m := emptySmithy(mixedHall)
	m.Desks[0].Mark, m.Desks[1].Mark, m.Desks[2].Mark = 10, 0, 20
	m.Smiths = make([]impl.Smith, 3)
	for choice := range len(kinds) * len(kinds) * len(kinds) {
		pick := choice
		for bench := range m.Desks {
			m.Desks[bench].Who = -1
		}
		for who := range m.Smiths {
			m.Smiths[who] = kinds[pick%len(kinds)]
			pick /= len(kinds)
			if s := &m.Smiths[who]; s.State == impl.SmWaits {
				s.Had = []int64{5, 3, 9}[who] + m.Desks[s.Bench].Mark
				if m.Desks[s.Bench].Who == -1 {
					s.State, m.Desks[s.Bench].Who = impl.SmWorks, int64(who)
				}
			}
		}
		checkLevelAnswers(t, m)
		if choice%7 == 0 {
			checkPromise18(t, m, counted)
		}
	}
	counted.checkAtLeast(t, 300, "misfit", "waiting", "moved 0", "moved 1", "moved 2")
}
