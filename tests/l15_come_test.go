package tests

import (
	"fmt"
	"math"
	"reflect"
	"slices"
	"testing"

	"loop.example/g00553/impl"
)

// asked is one thing that may be asked of a smithy, with what the program answers and what a reckoning does.
type asked struct {
	name string
	got  func(m impl.Smithy) (impl.Smithy, int64)
	want func(m impl.Smithy) (impl.Smithy, int64)
}

func coming(rank, may, guild int64) asked {
	return asked{
		fmt.Sprint("Come ", rank, " ", may, " ", guild),
		func(m impl.Smithy) (impl.Smithy, int64) { return impl.Come(m, rank, may, guild) },
		func(m impl.Smithy) (impl.Smithy, int64) { return wantCome(m, rank, may, guild) },
	}
}

func resting(who int64) asked {
	return asked{
		fmt.Sprint("Rest ", who),
		func(m impl.Smithy) (impl.Smithy, int64) { return impl.Rest(m, who) },
		func(m impl.Smithy) (impl.Smithy, int64) { return wantRest(m, who) },
	}
}

func waking(who int64) asked {
	return asked{
		fmt.Sprint("Wake ", who),
		func(m impl.Smithy) (impl.Smithy, int64) { return impl.Wake(m, who) },
		func(m impl.Smithy) (impl.Smithy, int64) { return wantWake(m, who) },
	}
}

func leaving(who int64) asked {
	return asked{
		fmt.Sprint("Leave ", who),
		func(m impl.Smithy) (impl.Smithy, int64) { return impl.Leave(m, who) },
		func(m impl.Smithy) (impl.Smithy, int64) { return wantLeave(m, who) },
	}
}

func comer(rank, may, guild int64) impl.Smith {
	return impl.Smith{State: impl.SmAway, Rank: rank, May: may, Guild: guild, High: mostBound}
}

// withComer is that smithy with one more who is away from bench 0.
func withComer(m impl.Smithy, s impl.Smith) impl.Smithy {
	x := lendSmithy(m)
	x.Smiths = append(slices.Clone(x.Smiths), s)
	return x
}

func wantCome(m impl.Smithy, rank, may, guild int64) (impl.Smithy, int64) {
	switch {
	case !wantSmithyOk(m):
		return impl.Smithy{}, 3
	case !isFrom(rank, -5, 5) || !isFrom(may, 1, 255) || !isFrom(guild, -1, int64(len(m.Guilds))-1):
		return m, 3
	case len(m.Smiths) == mostSmiths:
		return m, 4
	}
	x, who := withComer(m, comer(rank, may, guild)), int64(len(m.Smiths))
	bench := wantChosen(x, wantUsed(x), who)
	if bench == -1 {
		return m, 2
	}
	x.Smiths[who].State, x.Smiths[who].Bench, x.Smiths[who].Had = 2, bench, m.Desks[bench].Mark
	return wantTurned(x), 0
}

// stateOf is that of who is gone where there is nobody.
func stateOf(m impl.Smithy, who int64) int64 {
	if !isFrom(who, 0, int64(len(m.Smiths))-1) {
		return 0
	}
	return m.Smiths[who].State
}

func wantRest(m impl.Smithy, who int64) (impl.Smithy, int64) {
	switch {
	case !wantSmithyOk(m):
		return impl.Smithy{}, 3
	case stateOf(m, who) < 2:
		return m, 1 + stateOf(m, who)
	}
	x := lendSmithy(m)
	x.Smiths[who].State = 1
	return wantTurned(x), 0
}

// wantWake takes how far ahead of the Mark who was, and has it that far ahead of the other one, but for the Credit.
func wantWake(m impl.Smithy, who int64) (impl.Smithy, int64) {
	if !wantSmithyOk(m) {
		return impl.Smithy{}, 3
	}
	if stateOf(m, who) == 0 {
		return m, 1
	}
	s, bench := m.Smiths[who], wantChosen(m, wantUsed(m), who)
	if s.State > 1 || bench == -1 {
		return m, 2
	}
	ahead := max(s.Had-m.Desks[s.Bench].Mark, -credit)
	if ahead > lead {
		return m, 4
	}
	x := lendSmithy(m)
	x.Smiths[who].State, x.Smiths[who].Bench, x.Smiths[who].Had = 2, bench, m.Desks[bench].Mark+ahead
	return wantTurned(x), 0
}

func wantLeave(m impl.Smithy, who int64) (impl.Smithy, int64) {
	switch {
	case !wantSmithyOk(m):
		return impl.Smithy{}, 3
	case stateOf(m, who) == 0:
		return m, 1
	}
	x := lendSmithy(m)
	x.Smiths[who] = impl.Smith{}
	return wantTurned(x), 0
}

// checkAsked holds what is answered against the reckoning, as the smithy is and as it is lent, and watches all memory.
func checkAsked(t *testing.T, m impl.Smithy, list ...asked) {
	t.Helper()
	for _, given := range []impl.Smithy{m, lendSmithy(m)} {
		before := toTheBrim(given)
		for _, a := range list {
			want, code := a.want(m)
			x, k := a.got(given)
			other, j := a.got(given)
			if k != code || j != code || !sameSmithy(x, want) || !sameSmithy(other, want) {
				t.Fatalf("%s of %+v = %+v, %d, not %+v, %d", a.name, m, x, k, want, code)
			}
			checkNoneShared(t, given, x, other)
		}
		if after := toTheBrim(given); !reflect.DeepEqual(after, before) {
			t.Fatalf("%+v became %+v", before, after)
		}
	}
}

// checkAnswers holds what is answered against the reckoning, and nothing else.
func checkAnswers(t *testing.T, m impl.Smithy, list ...asked) {
	t.Helper()
	for _, a := range list {
		want, code := a.want(m)
		if x, k := a.got(m); k != code || !sameSmithy(x, want) {
			t.Fatalf("%s of %+v = %+v, %d, not %+v, %d", a.name, m, x, k, want, code)
		}
	}
}

// checkCode asks for one code, written out, and that all is as it was where that is a refusal.
func checkCode(t *testing.T, what string, m impl.Smithy, a asked, code int64) impl.Smithy {
	t.Helper()
	x, k := a.got(m)
	if k != code || k != impl.OpDone && !sameSmithy(x, m) {
		t.Fatalf("%s: %s = %+v, %d, not %d: %+v", what, a.name, x, k, code, m)
	}
	checkAsked(t, m, a)
	return x
}

// checkNothingChanged is the first half of the promise, of a smithy that is right.
func checkNothingChanged(t *testing.T, m, x impl.Smithy, code int64) {
	t.Helper()
	if !isFrom(code, impl.OpNone, impl.OpLast) || !sameSmithy(x, m) {
		t.Fatalf("refused by %d, and %+v became %+v", code, m, x)
	}
}

// checkOthersStay asks that x is right and Turned, and that but for those, and for whose turn it is, all is as it was in m.
func checkOthersStay(t *testing.T, m, x impl.Smithy, whos ...int) {
	t.Helper()
	if !impl.SmithyOk(x) || !sameSmithy(impl.Turned(x), x) {
		t.Fatalf("not SmithyOk or not Turned: %+v became %+v", m, x)
	}
	was := lendSmithy(m)
	for _, who := range whos {
		if who == len(was.Smiths) {
			was.Smiths = append(was.Smiths, impl.Smith{})
		}
		was.Smiths[who] = x.Smiths[who]
	}
	checkOnlyTurnsChange(t, was, x)
	for bench, d := range m.Desks {
		checkFirstWorks(t, x, int64(bench), d.Mark)
	}
}

// isAs asks whether who is just as that, but for whether it waits or works.
func isAs(s, like impl.Smith) bool {
	state := s.State
	s.State = like.State
	return s == like && (state == impl.SmWaits || state == impl.SmWorks)
}

func checkComing(t *testing.T, m impl.Smithy, rank, may, guild int64) int64 {
	t.Helper()
	x, code := impl.Come(m, rank, may, guild)
	if code != impl.OpDone {
		checkNothingChanged(t, m, x, code)
		return code
	}
	who := len(m.Smiths)
	if len(x.Smiths) != who+1 {
		t.Fatalf("%d smiths became %d", who, len(x.Smiths))
	}
	like := comer(rank, may, guild)
	with := withComer(m, like)
	like.Bench = impl.Chosen(with, int64(who))
	like.Had = m.Desks[like.Bench].Mark
	if !isAs(x.Smiths[who], like) || !impl.MayWork(with, int64(who), like.Bench) {
		t.Fatalf("who came is %+v, and not as %+v: %+v", x.Smiths[who], like, m)
	}
	checkOthersStay(t, m, x, who)
	return code
}

func checkResting(t *testing.T, m impl.Smithy, who int64) int64 {
	t.Helper()
	x, code := impl.Rest(m, who)
	if code != impl.OpDone {
		checkNothingChanged(t, m, x, code)
		return code
	}
	like := m.Smiths[who]
	like.State = impl.SmAway
	if x.Smiths[who] != like || m.Smiths[who].State < impl.SmWaits {
		t.Fatalf("%+v rests as %+v", m.Smiths[who], x.Smiths[who])
	}
	checkOthersStay(t, m, x, int(who))
	return code
}

func checkWaking(t *testing.T, m impl.Smithy, who int64) int64 {
	t.Helper()
	x, code := impl.Wake(m, who)
	if code != impl.OpDone {
		checkNothingChanged(t, m, x, code)
		return code
	}
	like, from := m.Smiths[who], m.Desks[m.Smiths[who].Bench].Mark
	like.Bench = impl.Chosen(m, who)
	to := m.Desks[like.Bench].Mark
	like.Had = impl.Placed(impl.Moved(like.Had, from, to), to)
	if !isAs(x.Smiths[who], like) || m.Smiths[who].State != impl.SmAway || !impl.InBand(like.Had, to) || !impl.MayWork(m, who, like.Bench) {
		t.Fatalf("%+v wakes as %+v, not as %+v: %+v", m.Smiths[who], x.Smiths[who], like, m)
	}
	checkOthersStay(t, m, x, int(who))
	return code
}

func checkLeaving(t *testing.T, m impl.Smithy, who int64) int64 {
	t.Helper()
	x, code := impl.Leave(m, who)
	if code != impl.OpDone {
		checkNothingChanged(t, m, x, code)
		return code
	}
	if x.Smiths[who] != gone() || m.Smiths[who] == gone() {
		t.Fatalf("%+v leaves as %+v", m.Smiths[who], x.Smiths[who])
	}
	checkOthersStay(t, m, x, int(who))
	return code
}

// codes counts how often each code was answered, by what was asked.
type codes map[string]int

func (c codes) add(what string, code int64) { c[fmt.Sprint(what, " ", code)]++ }

func (c codes) checkAtLeast(t *testing.T, least int, names ...string) {
	t.Helper()
	for _, name := range names {
		if c[name] < least {
			t.Errorf("too few of %s: %v", name, c)
		}
	}
}

// checkPromise15 is the promise by its words, of a smithy that is right, with some who come and with all there are.
func checkPromise15(t *testing.T, m impl.Smithy, c codes, comers ...impl.Smith) {
	t.Helper()
	if !impl.SmithyOk(m) {
		t.Fatalf("not SmithyOk: %+v", m)
	}
	for _, s := range comers {
		c.add("Come", checkComing(t, m, s.Rank, s.May, s.Guild))
	}
	for _, who := range upTo(len(m.Smiths)) {
		c.add("Rest", checkResting(t, m, who))
		c.add("Wake", checkWaking(t, m, who))
		c.add("Leave", checkLeaving(t, m, who))
	}
}

// allAsked holds whatever may be asked of so many smiths, and some that come.
func allAsked(count int, comers ...impl.Smith) []asked {
	list := []asked{}
	for _, s := range comers {
		list = append(list, coming(s.Rank, s.May, s.Guild))
	}
	for _, who := range upTo(count) {
		list = append(list, resting(who), waking(who), leaving(who))
	}
	return list
}

func fewComers() []impl.Smith {
	return []impl.Smith{comer(0, 255, -1), comer(-5, 1, 0), comer(5, 6, -1), comer(1, 128, -1), comer(6, 255, -1), comer(0, 0, -1), comer(0, 255, 6)}
}

func checkToAndFro(t *testing.T, m impl.Smithy, comers ...impl.Smith) {
	t.Helper()
	checkAsked(t, m, allAsked(len(m.Smiths), comers...)...)
	checkPromise15(t, m, codes{}, comers...)
}

// checkNothingDone asks for what is answered of a smithy that is not right, whatever is asked of it.
func checkNothingDone(t *testing.T, what string, m impl.Smithy, list ...asked) {
	t.Helper()
	lent := lendSmithy(m)
	before := toTheBrim(lent)
	if impl.SmithyOk(lent) {
		t.Fatalf("SmithyOk with %s: %+v", what, m)
	}
	for _, a := range list {
		if x, code := a.got(lent); code != impl.OpRange || !sameSmithy(x, impl.Smithy{}) {
			t.Fatalf("%s with %s = %+v, %d: %+v", a.name, what, x, code, m)
		}
	}
	if after := toTheBrim(lent); !reflect.DeepEqual(after, before) {
		t.Fatalf("%+v became %+v", before, after)
	}
}

func TestOpConstants(t *testing.T) {
	if got := []int64{impl.OpDone, impl.OpNone, impl.OpState, impl.OpRange, impl.OpFull, impl.OpLast}; !slices.Equal(got, upTo(5)[1:]) {
		t.Fatal(got)
	}
}

func TestComeCases(t *testing.T) {
	guilds := []impl.Guild{guild(-1, 0, 500), guild(-1, 300, 1024), guild(-1, 1000, 1024)}
	m := dearSmithy()
	m.Guilds, m.Desks[0].Mark, m.Desks[1].Mark, m.Desks[2].Mark = guilds, 5, -7, 90
	cases := []struct {
		what                            string
		rank, may, guild                int64
		code, bench, had, state, worker int64
	}{
		{"who may work anywhere and wants nothing", 0, 255, -1, impl.OpDone, 0, 5, impl.SmWaits, 0},
		{"who may work at the second bench", 3, 2, 0, impl.OpDone, 1, -7, impl.SmWorks, 5},
		{"who may work at the idle bench", -5, 4, -1, impl.OpDone, 2, 90, impl.SmWorks, 5},
		{"who may work at the last two benches", 5, 6, -1, impl.OpDone, 1, -7, impl.SmWorks, 5},
		{"who has a guild that wants 300", 1, 7, 1, impl.OpDone, 2, 90, impl.SmWorks, 5},
		{"who has a guild that wants 300 and may not work at the strong bench", 1, 3, 1, impl.OpDone, 0, 5, impl.SmWaits, 0},
		{"who has a guild that wants more than any bench has", 1, 255, 2, impl.OpDone, 2, 90, impl.SmWorks, 5},
		{"no rank", 6, 255, -1, impl.OpRange, 0, 0, 0, 0},
		{"an empty May", 0, 0, -1, impl.OpRange, 0, 0, 0, 0},
		{"a guild that is not there", 0, 255, 3, impl.OpRange, 0, 0, 0, 0},
		{"who may work at no bench there is", 0, 248, -1, impl.OpState, 0, 0, 0, 0},
	}
	// Who comes to the second bench had one less than the one who works there.
	m.Smiths[1].Had = -6
	for _, k := range cases {
		x := checkCode(t, k.what, m, coming(k.rank, k.may, k.guild), k.code)
		if k.code != impl.OpDone {
			continue
		}
		want := impl.Smith{State: k.state, Bench: k.bench, Rank: k.rank, May: k.may, Guild: k.guild, High: 1024, Had: k.had}
		if len(x.Smiths) != 6 || x.Smiths[5] != want || x.Desks[k.bench].Who != k.worker {
			t.Errorf("%s: %+v, not %+v, and %d works", k.what, x.Smiths[5], want, x.Desks[k.bench].Who)
		}
		checkComing(t, m, k.rank, k.may, k.guild)
	}
}

func TestRestWakeAndLeaveCases(t *testing.T) {
	m := dearSmithy()
	m.Desks[0].Mark, m.Desks[1].Mark, m.Desks[2].Mark = 3, -7, 90
	x := checkCode(t, "who works while another one waits", m, resting(0), impl.OpDone)
	if s := x.Smiths[0]; s != smith(impl.SmAway, 0, 0, 100) || x.Desks[0] != (impl.Desk{Open: true, Who: 2, Mark: 5}) || x.Smiths[2].State != impl.SmWorks {
		t.Errorf("%+v", x)
	}
	x = checkCode(t, "who works alone", m, resting(1), impl.OpDone)
	if s := x.Smiths[1]; s != smith(impl.SmAway, 1, 0, 200) || x.Desks[1] != (impl.Desk{Open: true, Who: -1, Mark: -7}) {
		t.Errorf("%+v", x)
	}
	x = checkCode(t, "who waits", m, resting(2), impl.OpDone)
	if s := x.Smiths[2]; s != smith(impl.SmAway, 0, 5, 50) || x.Desks[0] != (impl.Desk{Open: true, Who: 0, Mark: 3}) || x.Smiths[0].State != impl.SmWorks {
		t.Errorf("%+v", x)
	}
	// It had 81 less than the Mark of its bench, and is Chosen there.
	x = checkCode(t, "who wakes at its own bench", m, waking(3), impl.OpDone)
	if s := x.Smiths[3]; s != smith(impl.SmWorks, 2, 9, 300) || x.Desks[2] != (impl.Desk{Open: true, Who: 3, Mark: 90}) {
		t.Errorf("%+v", x)
	}
	other := withMay(m, 3, 2)
	x = checkCode(t, "who wakes at another bench", other, waking(3), impl.OpDone)
	if s := x.Smiths[3]; s.Bench != 1 || s.Had != -7-81 || s.State != impl.SmWorks || x.Smiths[1].State != impl.SmWaits || x.Desks[1] != (impl.Desk{Open: true, Who: 3, Mark: -7}) {
		t.Errorf("%+v", x)
	}
	for who, k := range []struct {
		worker, bench int64
	}{{2, 0}, {-1, 1}, {0, 0}, {-1, 2}} {
		x = checkCode(t, "who leaves", m, leaving(int64(who)), impl.OpDone)
		if x.Smiths[who] != gone() || x.Desks[k.bench].Who != k.worker || len(x.Smiths) != 5 {
			t.Errorf("%d leaves: %+v", who, x)
		}
	}
}

// Who is gone, away, waits and works, one ahead of the first one and one past the last one, for each of the three.
func TestEveryStateAndEveryWho(t *testing.T) {
	for _, m := range []impl.Smithy{dearSmithy(), middleSmithy(), fullSmithy(), emptySmithy(benchHall), smithyWith("1 1:1", nil, gone())} {
		for _, who := range slices.Concat(wrongPlaces, upTo(len(m.Smiths))) {
			rest, wake, leave := int64(impl.OpNone), int64(impl.OpNone), int64(impl.OpNone)
			switch stateOf(m, who) {
			case impl.SmAway:
				rest, wake, leave = impl.OpState, -1, impl.OpDone
			case impl.SmWaits, impl.SmWorks:
				rest, wake, leave = impl.OpDone, impl.OpState, impl.OpDone
			}
			checkCode(t, "each state", m, resting(who), rest)
			checkCode(t, "each state", m, leaving(who), leave)
			// Whether who is away may wake hangs on more than that.
			if wake >= 0 {
				checkCode(t, "each state", m, waking(who), wake)
			}
		}
	}
	m := smithyWith(benchHall, nil, smith(impl.SmAway, 0, 0, 5), smith(impl.SmWorks, 0, 0, 5), smith(impl.SmAway, 1, 0, 5))
	for who, want := range map[int64]int64{-1: impl.OpNone, 0: impl.OpDone, 1: impl.OpState, 2: impl.OpDone, 3: impl.OpNone} {
		checkCode(t, "first and last", m, waking(who), want)
	}
	last := smithyWith("1 9:9", nil, slices.Repeat([]impl.Smith{smith(impl.SmAway, 0, 0, 5)}, mostSmiths)...)
	for who := int64(-1); who <= mostSmiths; who++ {
		want := int64(impl.OpDone)
		if !isFrom(who, 0, mostSmiths-1) {
			want = impl.OpNone
		}
		checkCode(t, "twelve that are away", last, waking(who), want)
		checkCode(t, "twelve that are away", last, leaving(who), want)
	}
}

// What is asked twice is refused the second time; what was there and back is as it was.
func TestThereAndBack(t *testing.T) {
	for _, m := range append(rightSmithies(), dearSmithy()) {
		m = impl.Turned(m)
		for _, who := range upTo(len(m.Smiths)) {
			if x, code := impl.Rest(m, who); code == impl.OpDone {
				checkCode(t, "rests twice", x, resting(who), impl.OpState)
				y := checkCode(t, "rests and wakes", x, waking(who), impl.OpDone)
				checkCode(t, "wakes twice", y, waking(who), impl.OpState)
				s, was := y.Smiths[who], m.Smiths[who]
				if s.Bench == was.Bench && s.Had != was.Had {
					t.Fatalf("%+v rests and wakes as %+v", was, s)
				}
			}
			if x, code := impl.Leave(m, who); code == impl.OpDone {
				for _, a := range []asked{resting(who), waking(who), leaving(who)} {
					checkCode(t, "who left", x, a, impl.OpNone)
				}
			}
		}
		if x, code := impl.Come(m, 0, 255, -1); code == impl.OpDone {
			who := int64(len(m.Smiths))
			checkCode(t, "who came wakes", x, waking(who), impl.OpState)
			y := checkCode(t, "who came leaves", x, leaving(who), impl.OpDone)
			y.Smiths = y.Smiths[:who]
			if !sameSmithy(y, m) {
				t.Fatalf("one came and left, and %+v became %+v", m, y)
			}
		}
	}
}

// Rank, May and guild at each limit and one past it, and at all that lies between.
func TestWhoComesAtItsLimits(t *testing.T) {
	m := emptySmithy(eightHall)
	m.Guilds = someGuilds()
	for rank := int64(-7); rank <= 7; rank++ {
		code := int64(impl.OpDone)
		if rank < -5 || rank > 5 {
			code = impl.OpRange
		}
		checkCode(t, "a rank", m, coming(rank, 255, -1), code)
	}
	for may := int64(-2); may <= 258; may++ {
		code := int64(impl.OpDone)
		if may < 1 || may > 255 {
			code = impl.OpRange
		}
		x := checkCode(t, "a May", m, coming(0, may, -1), code)
		if code == impl.OpDone && x.Smiths[0].Bench != wantMembers(may)[0] {
			t.Errorf("who may work at %v comes to %d", wantMembers(may), x.Smiths[0].Bench)
		}
	}
	for count := range 7 {
		m.Guilds = someGuilds()[:count]
		for g := int64(-3); g <= 8; g++ {
			code := int64(impl.OpDone)
			if g < -1 || g >= int64(count) {
				code = impl.OpRange
			}
			checkCode(t, fmt.Sprint(count, " guilds"), m, coming(0, 255, g), code)
		}
	}
	m.Guilds = someGuilds()[:3]
	for _, rank := range []int64{-6, -5, 5, 6} {
		for _, may := range []int64{0, 1, 255, 256} {
			for _, g := range []int64{-2, -1, 2, 3} {
				code := int64(impl.OpDone)
				if rank*rank > 25 || may%256 == 0 || g == -2 || g == 3 {
					code = impl.OpRange
				}
				checkCode(t, "all at once", m, coming(rank, may, g), code)
			}
		}
	}
}

func TestNumbersOfWhoComesOutOfRange(t *testing.T) {
	m := lendSmithy(middleSmithy())
	for _, n := range slices.Concat(noRanks, wrongInAnyField, extremes) {
		if !isFrom(n, -5, 5) {
			checkCode(t, "no rank", m, coming(n, 255, -1), impl.OpRange)
		}
		if !isFrom(n, 1, 255) {
			checkCode(t, "no May", m, coming(0, n, -1), impl.OpRange)
		}
		if !isFrom(n, -1, 0) {
			checkCode(t, "no guild", m, coming(0, 255, n), impl.OpRange)
		}
		if !isFrom(n, -5, 5) {
			checkCode(t, "all of them", m, coming(n, n, n), impl.OpRange)
		}
	}
	for _, n := range []int64{math.MinInt64, math.MaxInt64} {
		for _, o := range []int64{math.MinInt64, math.MaxInt64} {
			checkCode(t, "two of them", m, coming(n, o, 0), impl.OpRange)
			checkCode(t, "two of them", m, coming(n, 255, o), impl.OpRange)
			checkCode(t, "two of them", m, coming(0, n, o), impl.OpRange)
		}
	}
}

// The last one there is room for and one more, where all others are of one kind; who is gone takes room, too.
func TestTheLastOneThereIsRoomFor(t *testing.T) {
	for _, kind := range []impl.Smith{gone(), smith(impl.SmAway, 1, 7, 8), smith(impl.SmWaits, 0, 7, 8)} {
		for count := 1; count <= mostSmiths; count++ {
			smiths := slices.Repeat([]impl.Smith{kind}, count)
			smiths[0] = smith(impl.SmWorks, 0, 1, 2)
			m := smithyWith(benchHall, nil, smiths...)
			code := int64(impl.OpDone)
			if count == mostSmiths {
				code = impl.OpFull
			}
			for _, may := range []int64{255, 1, 2, 4} {
				x := checkCode(t, fmt.Sprint(count, " smiths"), m, coming(0, may, -1), code)
				if code == impl.OpDone && len(x.Smiths) != count+1 {
					t.Fatalf("%d smiths became %d", count, len(x.Smiths))
				}
			}
			checkToAndFro(t, m, fewComers()...)
		}
	}
	m := emptySmithy("1 9:9")
	for who := range mostSmiths {
		m = checkCode(t, "one after the other", m, coming(int64(who)%11-5, 1, -1), impl.OpDone)
		if m.Desks[0].Who != 0 {
			t.Fatalf("%d works: %+v", m.Desks[0].Who, m)
		}
	}
	checkCode(t, "one too many", m, coming(0, 1, -1), impl.OpFull)
	m = checkCode(t, "one leaves", m, leaving(3), impl.OpDone)
	checkCode(t, "one too many though one is gone", m, coming(0, 1, -1), impl.OpFull)
}

// Every choice of benches that are Open, with every May, for one who comes and for one who wakes.
func TestWhoMayWorkNowhere(t *testing.T) {
	for _, text := range []string{"1 7:7", benchHall, eightHall} {
		benches := len(emptySmithy(text).Desks)
		for open := int64(1); open < 1<<benches; open += 1 + open/8 {
			m := emptySmithy(text)
			for bench := range m.Desks {
				m.Desks[bench].Open, m.Desks[bench].Mark = open>>bench&1 == 1, int64(bench)*100
			}
			m.Smiths = []impl.Smith{gone(), smith(impl.SmAway, int64(benches)-1, int64(benches)*100, 1)}
			for may := int64(1); may <= 255; may += 1 + may/16 {
				code := int64(impl.OpState)
				if may&open != 0 {
					code = impl.OpDone
				}
				x := withMay(m, 1, may)
				came, k := impl.Come(x, 0, may, -1)
				woke, j := impl.Wake(x, 1)
				if k != code || j != code || code == impl.OpState && (!sameSmithy(came, x) || !sameSmithy(woke, x)) {
					t.Fatalf("%d of %+v: %d and %d, not %d", may, x, k, j, code)
				}
				checkComing(t, x, 0, may, -1)
				checkWaking(t, x, 1)
			}
			checkAsked(t, m, allAsked(2, comer(0, open, -1), comer(0, 255-open, -1), comer(0, 255, -1))...)
		}
	}
}

// Where several codes apply it is the one named first.
func TestSeveralCodesAtOnce(t *testing.T) {
	full := smithyWith(benchHall, nil, slices.Repeat([]impl.Smith{smith(impl.SmAway, 0, 0, 5)}, mostSmiths)...)
	full.Desks[1].Open = false
	room := lendSmithy(full)
	room.Smiths = room.Smiths[:5]
	for _, k := range []struct {
		what             string
		m                impl.Smithy
		rank, may, guild int64
		code             int64
	}{
		{"out of range and no room", full, 6, 255, -1, impl.OpRange},
		{"out of range and nowhere to work", room, 6, 2, -1, impl.OpRange},
		{"no set, which is nowhere, too", room, 0, 256, -1, impl.OpRange},
		{"an empty May, which is nowhere, too", room, 0, 0, -1, impl.OpRange},
		{"no guild and nowhere to work", room, 0, 2, 0, impl.OpRange},
		{"no room and nowhere to work", full, 0, 2, -1, impl.OpFull},
		{"no room and no bench of its May", full, 0, 248, -1, impl.OpFull},
		{"no room, no guild and nowhere to work", full, 0, 2, 0, impl.OpRange},
		{"all of it", full, -6, 0, 6, impl.OpRange},
		{"no room alone", full, 0, 1, -1, impl.OpFull},
		{"nowhere to work alone", room, 0, 2, -1, impl.OpState},
	} {
		checkCode(t, k.what, k.m, coming(k.rank, k.may, k.guild), k.code)
	}
	ahead := smith(impl.SmAway, 0, lead+1, 5)
	m := smithyWith(benchHall, nil, ahead, smith(impl.SmWorks, 0, lead, 5), gone())
	m.Desks[1].Open = false
	checkCode(t, "ahead of the band", m, waking(0), impl.OpFull)
	checkCode(t, "ahead of the band and nowhere to work", withMay(m, 0, 2), waking(0), impl.OpState)
	checkCode(t, "ahead of the band and no bench of its May", withMay(m, 0, 248), waking(0), impl.OpState)
	checkCode(t, "not away and just in the band", m, waking(1), impl.OpState)
	checkCode(t, "gone, and so not away, and nowhere to work", m, waking(2), impl.OpNone)
	checkCode(t, "gone, and so neither waits nor works", m, resting(2), impl.OpNone)
	checkCode(t, "nobody", m, waking(3), impl.OpNone)
	m.Now = -1
	checkNothingDone(t, "a Now below 0, and all else that may be refused", m, allAsked(3, fewComers()...)...)
}

// Who rests keeps all that it had, wherever it stands in its queue.
func TestWhoRests(t *testing.T) {
	for count := 1; count <= mostSmiths; count++ {
		smiths := []impl.Smith{}
		for who := range int64(count) {
			s := drawnSmith(new(lots), 1, impl.Desk{Open: true})
			s.State, s.May, s.Guild, s.Had = impl.SmWaits, 255, -1, (who*7+3)%13
			smiths = append(smiths, s)
		}
		for worker := range count {
			m := smithyWith(benchHall, nil, smiths...)
			m.Smiths[worker].State, m.Desks[1].Who = impl.SmWorks, int64(worker)
			for who := range int64(count) {
				x := checkCode(t, "one of many", m, resting(who), impl.OpDone)
				rest := slices.DeleteFunc(wantAt(m, 1), func(e impl.Entry) bool { return e.Who == who })
				if q := impl.At(x, 1); !slices.Equal(q, rest) {
					t.Fatalf("%d rests, and there are %v, not %v", who, q, rest)
				}
				if len(rest) == 0 && (x.Desks[1] != impl.Desk{Open: true, Who: -1} || !impl.IsIdle(x, 1)) {
					t.Fatalf("the only one rests: %+v", x)
				}
				if len(rest) > 0 && (x.Desks[1] != impl.Desk{Open: true, Who: rest[0].Who, Mark: rest[0].Had}) {
					t.Fatalf("%d rests, and %d works", who, x.Desks[1].Who)
				}
				checkResting(t, m, who)
				checkLeaving(t, m, who)
			}
		}
	}
}

// wakingHads holds how far ahead of the Mark who wakes may be: far behind and ahead, at both edges and beside them.
var wakingHads = slices.Concat(aroundBand, []int64{-trillion, -trillion / 2, -7, 9, trillion / 2, trillion})

// Who wakes at its own bench or at another one, whose Mark is less, greater or the same.
func TestWhoWakesInTheBand(t *testing.T) {
	marks := []int64{-mostMark, -mostMark + 1, -100000, -1, 0, 5, 100000, mostMark - lead, mostMark - 1, mostMark}
	counted := codes{}
	for _, from := range marks {
		for _, to := range marks {
			for _, ahead := range wakingHads {
				if isFrom(from+ahead, leastHad, mostHad) {
					checkWokenAt(t, counted, from, to, ahead)
				}
			}
		}
	}
	counted.checkAtLeast(t, 100, "own 0", "own 4", "other 0", "other 4")
}

// checkWokenAt has one who is away from bench 1, that far ahead, and lets it wake there and at both others.
func checkWokenAt(t *testing.T, counted codes, from, to, ahead int64) {
	t.Helper()
	for bench := range int64(3) {
		m := smithyWith("1 300:9/1 300:9/1 300:9", nil, smith(impl.SmAway, 1, from+ahead, 5))
		m.Smiths[0].May = 1 << bench
		m.Desks[1].Mark = from
		where, mark := "own", from
		if bench != 1 {
			where, mark = "other", to
			m.Desks[bench].Mark = to
		}
		x, code := impl.Wake(m, 0)
		counted.add(where, code)
		if ahead > lead {
			if code != impl.OpFull || !sameSmithy(x, m) {
				t.Fatalf("%d ahead: Wake(%+v, 0) = %+v, %d", ahead, m, x, code)
			}
			continue
		}
		had := mark + max(ahead, -credit)
		want := lendSmithy(m)
		want.Smiths[0].State, want.Smiths[0].Bench, want.Smiths[0].Had = impl.SmWorks, bench, had
		want.Desks[bench].Who, want.Desks[bench].Mark = 0, min(max(mark, had), mostMark)
		if code != impl.OpDone || !sameSmithy(x, want) {
			t.Fatalf("%d ahead: Wake(%+v, 0) = %+v, %d, not %+v", ahead, m, x, code, want)
		}
		checkWaking(t, m, 0)
		checkClosedAheadOfWaking(t, m, bench, want)
	}
}

// checkClosedAheadOfWaking asks that it is of no matter whether the bench that one is away from is closed.
func checkClosedAheadOfWaking(t *testing.T, m impl.Smithy, bench int64, want impl.Smithy) {
	t.Helper()
	if bench == 1 {
		return
	}
	m.Desks[1].Open, want.Desks[1].Open = false, false
	if x, code := impl.Wake(m, 0); code != impl.OpDone || !sameSmithy(x, want) {
		t.Fatalf("Wake(%+v, 0) = %+v, %d, not %+v", m, x, code, want)
	}
}

// Who wakes where others are works just where it had least of all there.
func TestWhoWakesAmongOthers(t *testing.T) {
	for _, mark := range []int64{-mostMark, -50, 0, 50, mostMark} {
		for _, worker := range []int64{-credit, -3, 0, 3, lead} {
			for _, ahead := range []int64{-credit - 1, -credit, -4, -3, -2, 0, 2, 3, 4, lead} {
				for who := range int64(2) {
					smiths := make([]impl.Smith, 2)
					smiths[who], smiths[1-who] = smith(impl.SmAway, 2, 1000+ahead, 5), smith(impl.SmWorks, 0, mark+worker, 5)
					smiths[who].May = 1
					m := smithyWith(benchHall, nil, smiths...)
					m.Desks[0].Mark, m.Desks[2].Mark = mark, 1000
					x := checkCode(t, "among others", m, waking(who), impl.OpDone)
					had, first := max(ahead, -credit), 1-who
					if had < worker || had == worker && who == 0 {
						first = who
					}
					if x.Desks[0].Who != first || x.Smiths[first].State != impl.SmWorks || x.Smiths[1-first].State != impl.SmWaits || x.Desks[2].Mark != 1000 {
						t.Fatalf("%d is first: Wake(%+v, %d) = %+v", first, m, who, x)
					}
					checkWaking(t, m, who)
				}
			}
		}
	}
}

// Who comes had just the Mark, be it what it may, and all that are there stay where they are.
func TestWhoComesHadTheMark(t *testing.T) {
	for _, mark := range []int64{-mostMark, -mostMark + 1, -100000, -1, 0, 1, 77, mostMark - 1, mostMark} {
		for _, worker := range []int64{-credit, -1, 0, 1, lead} {
			for bench := range int64(3) {
				m := smithyWith(benchHall, nil, smith(impl.SmWorks, bench, mark+worker, 5))
				m.Desks[bench].Mark = mark
				x := checkCode(t, "who comes", m, coming(-2, 1<<bench, -1), impl.OpDone)
				first := int64(0)
				if worker > 0 {
					first = 1
				}
				if s := x.Smiths[1]; s.Had != mark || s.Bench != bench || x.Desks[bench] != (impl.Desk{Open: true, Who: first, Mark: mark}) {
					t.Fatalf("Come(%+v) = %+v", m, x)
				}
				checkComing(t, m, -2, 1<<bench, -1)
			}
		}
	}
}

// Behind all that is done each bench is Turned, those too where nobody came or went; what is refused is not Turned.
func TestAllBenchesAreTurned(t *testing.T) {
	m := smithyWith(benchHall, nil,
		smith(impl.SmWorks, 0, 9, 5), smith(impl.SmWaits, 0, 4, 5), smith(impl.SmWorks, 1, 7, 5), smith(impl.SmAway, 2, 0, 5), smith(impl.SmWorks, 2, 1, 5), smith(impl.SmWaits, 2, 1, 5), gone())
	m.Smiths[3].May = 4
	m.Smiths[4].State, m.Smiths[5].State, m.Desks[2].Who = impl.SmWaits, impl.SmWorks, 5
	for _, a := range []asked{coming(0, 2, -1), coming(0, 4, -1), waking(3), leaving(3), resting(2), leaving(2), resting(5), leaving(5)} {
		x := checkCode(t, "others are Turned", m, a, impl.OpDone)
		if x.Desks[0] != (impl.Desk{Open: true, Who: 1, Mark: 4}) || x.Smiths[0].State != impl.SmWaits || x.Smiths[1].State != impl.SmWorks {
			t.Errorf("%s = %+v", a.name, x)
		}
	}
	for _, a := range []asked{coming(6, 2, -1), coming(0, 8, -1), waking(0), waking(6), resting(3), resting(6), leaving(6), leaving(7)} {
		x, code := a.got(m)
		if code == impl.OpDone || !sameSmithy(x, m) || sameSmithy(x, impl.Turned(m)) {
			t.Errorf("%s = %+v, %d", a.name, x, code)
		}
	}
}

// drawnComers are of all ranks, guilds and Mays, most of them right.
func drawnComers(l *lots, count int) []impl.Smith {
	list := []impl.Smith{}
	for range count {
		list = append(list, comer(l.below(12)-5, l.below(257), l.below(8)-1))
	}
	return list
}

// nearer lets all who are away be about as far from their Mark as the band is wide.
func nearer(l *lots, m impl.Smithy) impl.Smithy {
	x := lendSmithy(m)
	for who, s := range x.Smiths {
		if s.State == impl.SmAway {
			x.Smiths[who].Had = x.Desks[s.Bench].Mark + oneOf(l, aroundBand...)
		}
	}
	return x
}

// Every hall from one bench to eight, with none to twelve smiths of all states, ranks, guilds, bounds, Utils and Mays.
func TestManySmithiesToAndFro(t *testing.T) {
	l, counted := lots(15), codes{}
	for _, h := range rightHalls(t) {
		for count := range mostSmiths + 1 {
			m := nearer(&l, withTurns(&l, drawnSmithy(&l, h, count)))
			for i, x := range []impl.Smithy{m, eased(&l, m, 90), eased(&l, impl.Turned(m), 12)} {
				comers := drawnComers(&l, 4)
				checkPromise15(t, x, counted, comers...)
				if (count+i)%3 == 0 {
					checkAsked(t, x, allAsked(count, comers...)...)
				}
			}
		}
	}
	counted.checkAtLeast(t, 300, "Come 0", "Come 2", "Come 3", "Come 4", "Rest 0", "Rest 1", "Rest 2", "Wake 0", "Wake 1", "Wake 2", "Wake 4", "Leave 0", "Leave 1")
}

func TestRightSmithiesToAndFro(t *testing.T) {
	for _, m := range append(rightSmithies(), dearSmithy()) {
		checkToAndFro(t, m, fewComers()...)
		checkToAndFro(t, impl.Turned(m), fewComers()...)
	}
	for _, h := range rightHalls(t) {
		m, _ := impl.NewSmithy(h)
		checkToAndFro(t, m, fewComers()...)
	}
}

// One thing after the other, from a new smithy on: whatever is asked, all of it stays right.
func TestLongToAndFro(t *testing.T) {
	l, counted := lots(1515), codes{}
	for _, text := range []string{"1 50:5", benchHall, dearHall, eightHall} {
		for range 6 {
			m := emptySmithy(text)
			m.Guilds = someGuilds()
			for range 150 {
				m = stepped(t, &l, counted, m)
			}
		}
	}
	counted.checkAtLeast(t, 20, "Come 0", "Come 2", "Come 4", "Rest 0", "Rest 1", "Rest 2", "Wake 0", "Wake 1", "Wake 2", "Leave 0", "Leave 1")
}

// stepped asks for one thing, and then lets some work be done and one bench where nobody is be opened or closed.
func stepped(t *testing.T, l *lots, counted codes, m impl.Smithy) impl.Smithy {
	t.Helper()
	who := l.below(len(m.Smiths)+2) - 1
	s := drawnComers(l, 1)[0]
	name := oneOf(l, "Come", "Come", "Rest", "Rest", "Rest", "Rest", "Wake", "Wake", "Wake", "Wake", "Wake", "Leave")
	a := map[string]asked{"Come": coming(s.Rank, s.May, s.Guild), "Rest": resting(who), "Wake": waking(who), "Leave": leaving(who)}[name]
	checkAsked(t, m, a)
	x, code := a.got(m)
	counted.add(name, code)
	if !impl.SmithyOk(x) || code != impl.OpDone && !sameSmithy(x, m) {
		t.Fatalf("%s of %+v = %+v, %d", a.name, m, x, code)
	}
	later := lendSmithy(x)
	for _, d := range later.Desks {
		if d.Who >= 0 {
			later.Smiths[d.Who], _ = impl.Charged(later.Smiths[d.Who], l.below(9000))
			later.Smiths[d.Who].Util = l.below(200)
		}
	}
	if bench := l.below(len(later.Desks)); len(impl.At(x, bench)) == 0 {
		later.Desks[bench].Open = !later.Desks[bench].Open
	}
	if later = impl.Turned(later); impl.SmithyOk(later) {
		return later
	}
	return x
}

// Each part that chapter 11 names, wrong one at a time, and all that may be wrong in whose turn it is.
func TestOfWhatIsWrongNothingIsDone(t *testing.T) {
	for what, m := range wrongSmithies {
		checkNothingDone(t, what, m, allAsked(mostSmiths, fewComers()...)...)
	}
}

// The least and the greatest int64, and others that are right nowhere, in each number of each part and in all of them.
func TestToAndFroOfWrongNumbersInEveryPart(t *testing.T) {
	list := allAsked(mostSmiths, fewComers()...)
	for _, n := range []int64{math.MinInt64, math.MaxInt64} {
		list = append(list, coming(n, n, n), coming(n, 255, -1), coming(0, n, -1), coming(0, 255, n), resting(n), waking(n), leaving(n))
	}
	for what, m := range wrongNumbersInEveryPart {
		checkNothingDone(t, what, m, list...)
	}
}

// aLittleOff goes through a right smithy with each of its numbers a little off, and with many others that may be right
// or wrong there.
func aLittleOff(right impl.Smithy) func(yield func(m impl.Smithy) bool) {
	others := []int64{-mostMark - 1, -mostMark, -credit, -1, 0, 1, 2, 4, 7, 255, 256, 1024, 1025, lead, mostNow + 1, mostMark, mostMark + 1}
	return func(yield func(m impl.Smithy) bool) {
		for i, number := range numbersOf(&right) {
			tries := slices.Clone(others)
			for off := int64(-2); off <= 2; off++ {
				tries = append(tries, *number.at+off)
			}
			for _, n := range tries {
				m := lendSmithy(right)
				*numbersOf(&m)[i].at = n
				if !yield(m) {
					return
				}
			}
		}
	}
}

func TestToAndFroOfEveryNumberALittleOff(t *testing.T) {
	for _, right := range []impl.Smithy{middleSmithy(), dearSmithy()} {
		list := allAsked(len(right.Smiths), comer(0, 255, -1), comer(-1, 6, 0), comer(1, 2, -1))
		for m := range aLittleOff(right) {
			checkAnswers(t, m, list...)
		}
	}
}

// whatMeetsItsLimits goes through the middle smithy with limits that are met exactly.
func whatMeetsItsLimits(yield func(i int, m impl.Smithy) bool) {
	for i, change := range []func(m *impl.Smithy){
		func(m *impl.Smithy) { m.Now = 0 },
		func(m *impl.Smithy) { m.Now = mostNow },
		func(m *impl.Smithy) { m.Smiths = append(m.Smiths, make([]impl.Smith, 6)...) },
		func(m *impl.Smithy) { m.Smiths = append(m.Smiths, make([]impl.Smith, 7)...) },
		func(m *impl.Smithy) { m.Guilds = slices.Repeat(m.Guilds, 6) },
		func(m *impl.Smithy) { m.Paces = []int64{1, 1} },
		func(m *impl.Smithy) { m.Desks[1].Open, m.Desks[1].Mark = true, mostMark },
		func(m *impl.Smithy) { m.Desks[1].Open, m.Desks[1].Mark = true, -mostMark },
		func(m *impl.Smithy) {
			m.Desks[1].Open, m.Desks[1].Mark, m.Smiths[2].Had, m.Desks[2].Mark = true, -mostMark, leastHad, mostMark
			m.Smiths[4].Had = mostMark + lead
		},
		func(m *impl.Smithy) {
			m.Desks[1].Open, m.Desks[1].Mark, m.Smiths[2].Had, m.Desks[2].Mark = true, mostMark, mostHad, -mostMark
			m.Smiths[4].Had = -mostMark - credit
		},
		func(m *impl.Smithy) { m.Smiths[1].Work, m.Smiths[1].Util, m.Smiths[1].Carry = mostWork, 1024, 1279 },
		func(m *impl.Smithy) { m.Smiths[2].Work, m.Desks[1].Open = mostWork, true },
		func(m *impl.Smithy) { m.Smiths[0].Had = 200 + lead },
		func(m *impl.Smithy) { m.Smiths[0].Had = 200 - credit },
	} {
		m := lendSmithy(middleSmithy())
		change(&m)
		if !yield(i, m) {
			return
		}
	}
}

func TestToAndFroOfWhatMeetsItsLimits(t *testing.T) {
	for i, m := range whatMeetsItsLimits {
		checkToAndFro(t, m, fewComers()...)
		if _, code := impl.Rest(m, 0); code != impl.OpDone {
			t.Errorf("limit %d: Rest is refused by %d", i, code)
		}
	}
}

func TestToAndFroOfEmptyAndNilLists(t *testing.T) {
	for what, m := range withListsDropped {
		checkNothingDone(t, what, m, allAsked(mostSmiths, fewComers()...)...)
	}
	for _, text := range []string{"1 1:1", benchHall, eightHall} {
		m := emptySmithy(text)
		checkToAndFro(t, m, fewComers()...)
		m.Guilds, m.Smiths = nil, nil
		checkToAndFro(t, m, fewComers()...)
		for _, who := range upTo(0) {
			for _, a := range []asked{resting(who), waking(who), leaving(who)} {
				checkCode(t, "no smiths", m, a, impl.OpNone)
			}
		}
		checkCode(t, "no guilds", m, coming(0, 255, 0), impl.OpRange)
		checkCode(t, "no guilds", m, coming(0, 255, -1), impl.OpDone)
	}
}

// checkWrittenNowhereElse asks that what is written to one answer, in all of its lists, is seen in no other one and in no
// argument, and the other way about; of refusals, too.
func checkWrittenNowhereElse(t *testing.T, m impl.Smithy, list ...asked) {
	t.Helper()
	for _, a := range list {
		lent := lendSmithy(m)
		before := toTheBrim(lent)
		want, code := a.want(m)
		x, _ := a.got(lent)
		other, k := a.got(lent)
		checkNoneShared(t, lent, x, other)
		for _, n := range numbersOf(&x) {
			*n.at = -77
		}
		for bench := range x.Desks {
			x.Desks[bench].Open = !x.Desks[bench].Open
		}
		if !reflect.DeepEqual(toTheBrim(lent), before) || k != code || !sameSmithy(other, want) {
			t.Fatalf("what was written to %s of %+v is seen elsewhere", a.name, m)
		}
		for _, n := range numbersOf(&lent) {
			*n.at = -78
		}
		if !sameSmithy(other, want) {
			t.Fatalf("what was written to %+v is seen in %s", m, a.name)
		}
	}
}

func TestToAndFroIsNewMemory(t *testing.T) {
	for _, m := range append(rightSmithies(), dearSmithy()) {
		checkWrittenNowhereElse(t, m, allAsked(len(m.Smiths), fewComers()...)...)
	}
}

// withPacesShared has rooms that have one list of Paces between them.
func withPacesShared() impl.Smithy {
	m := smithyWith("1 1:1 2:2/2 1:1 2:2/1 1:1 2:2", nil, smith(impl.SmAway, 0, 0, 1), smith(impl.SmWorks, 1, 0, 1))
	for i := range m.Hall.Rooms {
		m.Hall.Rooms[i].Paces = m.Hall.Rooms[0].Paces
	}
	return m
}

// checkPacesApart asks that rooms have a list each in what is answered, whatever they have in what is given.
func checkPacesApart(t *testing.T, list ...asked) {
	t.Helper()
	m := withPacesShared()
	checkAnswers(t, m, list...)
	for _, a := range list {
		x, _ := a.got(m)
		checkNoneShared(t, x)
	}
}

func TestToAndFroSharesNoPaces(t *testing.T) { checkPacesApart(t, allAsked(2, fewComers()...)...) }

// smallSmithies goes through all smithies of two benches and of two smiths in all states, right and wrong.
func smallSmithies(yield func(m impl.Smithy) bool) {
	kinds := []impl.Smith{gone()}
	for state := int64(impl.SmAway); state <= impl.SmWorks; state++ {
		for bench := range int64(2) {
			for _, had := range []int64{-credit - 1, 0, lead, lead + 1} {
				for may := int64(1); may <= 3; may++ {
					s := smith(state, bench, had, 20+bench)
					s.May = may
					kinds = append(kinds, s)
				}
			}
		}
	}
	m := emptySmithy("1 50:30 60:70/1 50:20 100:80")
	m.Smiths = make([]impl.Smith, 2)
	for _, m.Smiths[0] = range kinds {
		for _, m.Smiths[1] = range kinds {
			for open := range 4 {
				m.Desks[0], m.Desks[1] = impl.Desk{Open: open%2 == 1, Who: -1}, impl.Desk{Open: open/2 == 1, Who: -1, Mark: 10}
				for who, s := range m.Smiths {
					if s.State == impl.SmWorks {
						m.Desks[s.Bench].Who = int64(who)
					}
				}
				if !yield(m) {
					return
				}
			}
		}
	}
}

func TestToAndFroOfSmallSmithies(t *testing.T) {
	list := allAsked(2, comer(0, 1, -1), comer(0, 3, -1))
	right, all := 0, 0
	for m := range smallSmithies {
		if all++; wantSmithyOk(m) {
			right++
		}
		checkAnswers(t, m, list...)
	}
	if right < 2000 || all-right < 2000 {
		t.Fatalf("%d of them are right, and %d wrong", right, all-right)
	}
}
