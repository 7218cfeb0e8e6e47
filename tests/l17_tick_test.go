package tests

import (
	"fmt"
	"math"
	"reflect"
	"slices"
	"testing"

	"loop.example/g00553/impl"
)

const mostTick = 20

// noWhiles holds what is no n; what looks like one in its lowest bits alone, or would bring a sum back into range, is
// among it.
var noWhiles = slices.Concat(extremes, wrongInAnyField, []int64{
	-mostNow - 1, -mostNow, -1<<32 + 5, -256, -21, -20, -2, -1, 0, 21, 22, 256, 257, 276, 1000, 1001, mostNow, mostNow + 1, 1<<32 + 5, 1<<54 + 1,
})

func ticking(n int64) asked {
	return asked{
		fmt.Sprint("Ticked ", n),
		func(m impl.Smithy) (impl.Smithy, int64) { return impl.Ticked(m, n) },
		func(m impl.Smithy) (impl.Smithy, int64) { return wantTicked(m, n) },
	}
}

func granting(room, pace int64) asked {
	return asked{
		fmt.Sprint("Granted ", room, " ", pace),
		func(m impl.Smithy) (impl.Smithy, int64) { return impl.Granted(m, room, pace) },
		func(m impl.Smithy) (impl.Smithy, int64) { return wantGranted(m, room, pace) },
	}
}

// forceNow is that of the Pace which the room of a bench has.
func forceNow(m impl.Smithy, bench int64) int64 {
	room := wantRooms(m.Hall)[bench]
	return m.Hall.Rooms[room].Paces[m.Paces[room]].Force
}

// wantFaded goes a 32nd of the way, where the program weighs both.
func wantFaded(u, x int64) int64 { return u + (x-u)>>5 }

// wantOneTick lets all work for a time of 1, where the program has all of the time at once.
func wantOneTick(x impl.Smithy) bool {
	for who, s := range x.Smiths {
		force := int64(0)
		if s.State == 3 {
			force = forceNow(x, s.Bench)
			charged, ok := wantCharged(s, force)
			if !ok {
				return false
			}
			x.Smiths[who] = charged
		}
		x.Smiths[who].Util = wantFaded(s.Util, force)
	}
	return true
}

func wantTicked(m impl.Smithy, n int64) (impl.Smithy, int64) {
	switch {
	case !wantSmithyOk(m):
		return impl.Smithy{}, 3
	case !isFrom(n, 1, mostTick):
		return m, 3
	}
	x := lendSmithy(m)
	for range n {
		if x.Now++; !wantOneTick(x) {
			return m, 4
		}
	}
	if !wantAllInPlace(x) {
		return m, 4
	}
	return wantTurned(x), 0
}

func wantWanted(m impl.Smithy, room int64) int64 {
	if !wantSmithyOk(m) || !isFrom(room, 0, int64(len(m.Hall.Rooms))-1) {
		return -1
	}
	need, _ := wantLoad(m, wantUsed(m), room)
	return wantPaceFor(m.Hall.Rooms[room], need)
}

// withPace is that smithy where one room has another Pace.
func withPace(m impl.Smithy, room, pace int64) impl.Smithy {
	x := lendSmithy(m)
	x.Paces[room] = pace
	return x
}

func wantGranted(m impl.Smithy, room, pace int64) (impl.Smithy, int64) {
	switch {
	case !wantSmithyOk(m):
		return impl.Smithy{}, 3
	case !isFrom(room, 0, int64(len(m.Hall.Rooms))-1):
		return m, 1
	case !isFrom(pace, 0, int64(len(m.Hall.Rooms[room].Paces))-1):
		return m, 3
	}
	return wantTurned(withPace(m, room, pace)), 0
}

// codeOfTick tells by the words of the chapter whether n may go by: Now, all that is Charged, and the band.
func codeOfTick(m impl.Smithy, n int64) int64 {
	if n < 1 || n > impl.MaxTick {
		return impl.OpRange
	}
	if m.Now+n > impl.MaxNow {
		return impl.OpFull
	}
	for bench, who := range impl.Working(m) {
		if who == -1 {
			continue
		}
		s, ok := impl.Charged(m.Smiths[who], n*forceNow(m, int64(bench)))
		if !ok || !impl.InBand(s.Had, m.Desks[bench].Mark) {
			return impl.OpFull
		}
	}
	return impl.OpDone
}

// forcesAtWork is what all benches together have where somebody works.
func forcesAtWork(m impl.Smithy) int64 {
	sum := int64(0)
	for bench, who := range impl.Working(m) {
		if who != -1 {
			sum += forceNow(m, int64(bench))
		}
	}
	return sum
}

func workOfAll(m impl.Smithy) int64 {
	sum := int64(0)
	for _, s := range m.Smiths {
		sum += s.Work
	}
	return sum
}

// likeBehind is what becomes of one smith, by the words of the chapter.
func likeBehind(m impl.Smithy, s impl.Smith, n int64) impl.Smith {
	switch s.State {
	case impl.SmGone:
		return s
	case impl.SmWorks:
		force := forceNow(m, s.Bench)
		like, _ := impl.Charged(s, n*force)
		like.Util = impl.FadedMany(s.Util, force, n)
		return like
	}
	s.Util = impl.FadedMany(s.Util, 0, n)
	return s
}

// checkTicking is the first half of the promise, of a smithy that is right: work is as much as time by Force.
func checkTicking(t *testing.T, m impl.Smithy, n int64) int64 {
	t.Helper()
	x, code := impl.Ticked(m, n)
	if want := codeOfTick(m, n); code != want {
		t.Fatalf("Ticked(%+v, %d) is answered by %d, not %d", m, n, code, want)
	}
	if code != impl.OpDone {
		checkNothingChanged(t, m, x, code)
		return code
	}
	checkNobodyLost(t, m, x)
	for who, s := range m.Smiths {
		if like := likeBehind(m, s, n); !isStill(x.Smiths[who], like) {
			t.Fatalf("%d is %+v, and not as %+v: Ticked(%+v, %d)", who, x.Smiths[who], like, m, n)
		}
	}
	if grown := workOfAll(x) - workOfAll(m); grown != n*forcesAtWork(m) {
		t.Fatalf("%d was worked in %d, with %d at work: %+v", grown, n, forcesAtWork(m), m)
	}
	if x.Now-m.Now != n {
		t.Fatalf("Now is %d behind %d: Ticked(%+v)", x.Now, n, m)
	}
	was := lendSmithy(m)
	was.Now += n
	whos := []int{}
	for who := range m.Smiths {
		whos = append(whos, who)
	}
	checkOthersStay(t, was, x, whos...)
	return code
}

func isEnoughFor(p impl.Pace, need int64) bool { return 5*need <= 4*p.Force }

// checkWanting is the other half, and tells whether what is Wanted is enough.
func checkWanting(t *testing.T, m impl.Smithy, room int64) bool {
	t.Helper()
	pace, need := impl.Wanted(m, room), impl.NeedIn(m, room)
	if !isFrom(room, 0, int64(len(m.Hall.Rooms))-1) {
		if pace != -1 {
			t.Fatalf("Wanted(%+v, %d) = %d", m, room, pace)
		}
		return false
	}
	r := m.Hall.Rooms[room]
	if pace != impl.PaceFor(r, need) || !isFrom(pace, 0, int64(len(r.Paces))-1) {
		t.Fatalf("Wanted(%+v, %d) = %d, where %d is needed", m, room, pace, need)
	}
	enough := isEnoughFor(r.Paces[pace], need)
	for i, p := range r.Paces {
		if isEnoughFor(p, need) && (!enough || int64(i) < pace) {
			t.Fatalf("Wanted(%+v, %d) = %d, where %d is needed, and %d is enough", m, room, pace, need, i)
		}
	}
	if !enough && pace != int64(len(r.Paces))-1 {
		t.Fatalf("Wanted(%+v, %d) = %d, and it is not the last one", m, room, pace)
	}
	checkWantedIsGranted(t, m, room, pace, enough)
	return enough
}

// checkWantedIsGranted asks that nothing is too much at a bench of a room which has the Pace that is Wanted, where that is
// enough.
func checkWantedIsGranted(t *testing.T, m impl.Smithy, room, pace int64, enough bool) {
	t.Helper()
	x, code := impl.Granted(m, room, pace)
	if code != impl.OpDone || impl.Wanted(x, room) != pace {
		t.Fatalf("Granted(%+v, %d, %d) = %+v, %d", m, room, pace, x, code)
	}
	tooMuch := false
	for _, bench := range impl.Members(impl.BenchSet(x.Hall, room)) {
		tooMuch = tooMuch || impl.TooMuch(impl.UsedAt(x, bench), forceNow(x, bench))
	}
	if tooMuch == enough {
		t.Fatalf("too much at a bench is %v, and enough %v: %+v", tooMuch, enough, x)
	}
}

// checkGranting asks that nothing changes but the Pace of that room, and whose turn it is where that was not Turned.
func checkGranting(t *testing.T, m impl.Smithy, room, pace int64) int64 {
	t.Helper()
	x, code := impl.Granted(m, room, pace)
	if code != impl.OpDone {
		checkNothingChanged(t, m, x, code)
		return code
	}
	was := withPace(m, room, pace)
	checkNobodyLost(t, was, x)
	checkOthersStay(t, was, x)
	if x.Paces[room] != pace || sameSmithy(impl.Turned(m), m) && !sameSmithy(x, was) {
		t.Fatalf("Granted(%+v, %d, %d) = %+v", m, room, pace, x)
	}
	return code
}

// checkPromise17 is the promise by its words, of a smithy that is right, with some times that go by.
func checkPromise17(t *testing.T, m impl.Smithy, counted codes, times ...int64) {
	t.Helper()
	if !impl.SmithyOk(m) {
		t.Fatalf("not SmithyOk: %+v", m)
	}
	for _, n := range times {
		counted.add("Ticked", checkTicking(t, m, n))
	}
	for _, room := range upTo(len(m.Hall.Rooms)) {
		counted[fmt.Sprint("Wanted is enough ", checkWanting(t, m, room))]++
		for _, pace := range upTo(4) {
			counted.add("Granted", checkGranting(t, m, room, pace))
		}
	}
}

// allWhiles holds whatever may be asked of so many rooms.
func allWhiles(rooms int, times ...int64) []asked {
	list := []asked{}
	for _, n := range times {
		list = append(list, ticking(n))
	}
	for _, room := range upTo(rooms) {
		for _, pace := range upTo(4) {
			list = append(list, granting(room, pace))
		}
	}
	return list
}

func fewTimes() []int64 { return []int64{-1, 0, 1, 2, 7, 19, 20, 21} }

func whilesOf(m impl.Smithy, times ...int64) []asked { return allWhiles(len(m.Hall.Rooms), times...) }

func checkWantedAnswers(t *testing.T, m impl.Smithy, rooms ...int64) {
	t.Helper()
	for _, room := range rooms {
		if got, want := impl.Wanted(m, room), wantWanted(m, room); got != want {
			t.Fatalf("Wanted(%+v, %d) = %d, not %d", m, room, got, want)
		}
	}
}

// checkWhiles asks all of the chapter, as the smithy is and as it is lent, and watches all memory.
func checkWhiles(t *testing.T, m impl.Smithy, times ...int64) {
	t.Helper()
	checkAsked(t, m, whilesOf(m, times...)...)
	checkPromise17(t, m, codes{}, times...)
	for _, given := range []impl.Smithy{m, lendSmithy(m)} {
		before := toTheBrim(given)
		checkWantedAnswers(t, given, upTo(len(m.Hall.Rooms))...)
		if after := toTheBrim(given); !reflect.DeepEqual(after, before) {
			t.Fatalf("%+v became %+v", before, after)
		}
	}
}

// checkNoWhile asks for the answers that the chapter names for a smithy that is not right.
func checkNoWhile(t *testing.T, what string, m impl.Smithy, list ...asked) {
	t.Helper()
	checkNothingDone(t, what, m, list...)
	lent := lendSmithy(m)
	before := toTheBrim(lent)
	for _, room := range upTo(3) {
		if pace := impl.Wanted(lent, room); pace != -1 {
			t.Fatalf("Wanted %d with %s = %d: %+v", room, what, pace, m)
		}
	}
	if after := toTheBrim(lent); !reflect.DeepEqual(after, before) {
		t.Fatalf("%+v became %+v", before, after)
	}
}

func TestTickConstants(t *testing.T) {
	if impl.MaxTick != 20 {
		t.Fatal(impl.MaxTick)
	}
}

func TestTickedCases(t *testing.T) {
	m := middleSmithy()
	// At bench 0 there is a Force of 200 now, and of 1024 at bench 2.
	for _, k := range []struct {
		n                  int64
		first, last        impl.Smith
		waitedUtil, awayAs int64
		mark, lastMark     int64
	}{
		{1, impl.Smith{Had: 455, Carry: 61, Util: 684, Work: 255}, impl.Smith{Had: 2032, Carry: 66, Util: 807, Work: 1082}, 96, 8, 203, 2032},
		{2, impl.Smith{Had: 705, Carry: 111, Util: 668, Work: 455}, impl.Smith{Had: 4033, Carry: 118, Util: 813, Work: 2106}, 93, 7, 203, 4033},
		{20, impl.Smith{Had: 5206, Carry: 192, Util: 458, Work: 4055}, impl.Smith{Had: 40053, Carry: 6, Util: 899, Work: 20538}, 47, 0, 203, 40053},
	} {
		x := checkCode(t, "a while", m, ticking(k.n), impl.OpDone)
		for who, want := range map[int]impl.Smith{0: k.first, 4: k.last} {
			s := x.Smiths[who]
			if s.Had != want.Had || s.Carry != want.Carry || s.Util != want.Util || s.Work != want.Work {
				t.Errorf("behind %d %d is %+v, not %+v", k.n, who, s, want)
			}
		}
		if s := x.Smiths[1]; s.Had != 203 || s.Work != 56 || s.Carry != 12 || s.Util != k.waitedUtil || s.State != impl.SmWorks {
			t.Errorf("behind %d who waited is %+v", k.n, s)
		}
		if s := x.Smiths[2]; s.Had != -7 || s.Work != 57 || s.Carry != 13 || s.Util != k.awayAs || s.State != impl.SmAway {
			t.Errorf("behind %d who was away is %+v", k.n, s)
		}
		if x.Smiths[3] != gone() || x.Now != 17+k.n || x.Smiths[0].State != impl.SmWaits || x.Smiths[4].State != impl.SmWorks {
			t.Errorf("behind %d: %+v", k.n, x)
		}
		desks := []impl.Desk{{Open: true, Who: 1, Mark: k.mark}, {Who: -1}, {Open: true, Who: 4, Mark: k.lastMark}}
		if !slices.Equal(x.Desks, desks) || !slices.Equal(x.Paces, m.Paces) {
			t.Errorf("behind %d: %+v", k.n, x)
		}
		checkTicking(t, m, k.n)
	}
}

func TestWantedCases(t *testing.T) {
	for i, k := range []struct {
		m    impl.Smithy
		want []int64
	}{
		{middleSmithy(), []int64{1, 1}},
		{fullSmithy(), []int64{0, 3, 1}},
		{dearSmithy(), []int64{1, 0}},
		{emptySmithy(eightHall), []int64{0, 0, 0}},
		{smithyWith(benchHall, nil, smith(impl.SmWorks, 0, 0, 160), smith(impl.SmWorks, 1, 0, 160), smith(impl.SmWorks, 2, 0, 409)), []int64{0, 0}},
		{smithyWith(benchHall, nil, smith(impl.SmWorks, 0, 0, 160), smith(impl.SmWorks, 1, 0, 161), smith(impl.SmWorks, 2, 0, 410)), []int64{1, 1}},
		{smithyWith(benchHall, nil, smith(impl.SmWorks, 0, 0, 100), smith(impl.SmWaits, 0, 0, 61)), []int64{1, 0}},
		{smithyWith(benchHall, nil, smith(impl.SmAway, 0, 0, 1024), smith(impl.SmAway, 2, 0, 1024), gone()), []int64{0, 0}},
		{smithyWith("1 10:1 20:2 30:3 40:4", nil, smith(impl.SmWorks, 0, 0, 17)), []int64{2}},
		{smithyWith("1 10:1 20:2 30:3 40:4", nil, smith(impl.SmWorks, 0, 0, 33)), []int64{3}},
		{smithyWith("1 9:9", nil, smith(impl.SmWorks, 0, 0, 1024)), []int64{0}},
	} {
		for _, room := range upTo(len(k.want)) {
			want := int64(-1)
			if isFrom(room, 0, int64(len(k.want))-1) {
				want = k.want[room]
			}
			if got := impl.Wanted(k.m, room); got != want {
				t.Errorf("case %d: Wanted %d = %d, not %d", i, room, got, want)
			}
		}
		checkWhiles(t, k.m, 1)
	}
}

func TestGrantedCases(t *testing.T) {
	// These rooms have one Pace, four and two.
	for _, k := range []struct {
		room, pace, code int64
	}{
		{0, 0, impl.OpDone}, {1, 0, impl.OpDone}, {1, 3, impl.OpDone}, {2, 0, impl.OpDone}, {2, 1, impl.OpDone},
		{0, 1, impl.OpRange}, {0, 3, impl.OpRange}, {1, 4, impl.OpRange}, {2, 2, impl.OpRange}, {2, 3, impl.OpRange},
		{0, -1, impl.OpRange}, {1, -1, impl.OpRange}, {2, -1, impl.OpRange},
		{-1, 0, impl.OpNone}, {3, 0, impl.OpNone}, {-1, -1, impl.OpNone}, {3, 4, impl.OpNone}, {-1, 4, impl.OpNone}, {4, 1, impl.OpNone},
	} {
		for _, m := range []impl.Smithy{emptySmithy(eightHall), fullSmithy(), impl.Turned(fullSmithy())} {
			x := checkCode(t, fmt.Sprint("room ", k.room, " pace ", k.pace), m, granting(k.room, k.pace), k.code)
			checkGranting(t, m, k.room, k.pace)
			if k.code != impl.OpDone {
				continue
			}
			for room, pace := range x.Paces {
				if int64(room) == k.room && pace != k.pace || int64(room) != k.room && pace != m.Paces[room] {
					t.Errorf("Granted %d %d: %v", k.room, k.pace, x.Paces)
				}
			}
		}
	}
}

// n at each limit and beside it, of smithies of all kinds; none of them is near any other limit.
func TestHowLongAWhileMayBe(t *testing.T) {
	for _, m := range rightSmithies() {
		m = impl.Turned(m)
		for n := int64(-3); n <= 24; n++ {
			code := int64(impl.OpRange)
			if 1 <= n && n <= 20 {
				code = impl.OpDone
			}
			checkCode(t, "each n", m, ticking(n), code)
			checkTicking(t, m, n)
		}
		for _, n := range noWhiles {
			if !isFrom(n, 1, mostTick) {
				checkCode(t, "no n", m, ticking(n), impl.OpRange)
			}
		}
	}
}

// Now so that it is just within its range behind it, and one past it, with nobody, with one who works, and with many.
func TestNowAtItsLimit(t *testing.T) {
	for _, m := range []impl.Smithy{emptySmithy(benchHall), middleSmithy(), impl.Turned(fullSmithy()), smithyWith("1 9:9", nil, smith(impl.SmAway, 0, 0, 99))} {
		for n := int64(1); n <= mostTick; n++ {
			for left := int64(0); left <= mostTick+2; left++ {
				m.Now = mostNow - left
				code := int64(impl.OpDone)
				if n > left {
					code = impl.OpFull
				}
				x := checkCode(t, fmt.Sprint(left, " left"), m, ticking(n), code)
				if code == impl.OpDone && x.Now != mostNow-left+n {
					t.Fatalf("%d left, and behind %d it is %d", left, n, x.Now)
				}
			}
		}
		m.Now = mostNow
		checkCode(t, "the end of time", m, ticking(0), impl.OpRange)
		checkCode(t, "the end of time", m, ticking(21), impl.OpRange)
		checkCode(t, "the end of time", m, ticking(-1), impl.OpRange)
		if x, code := impl.Granted(m, 0, 0); code != impl.OpDone || x.Now != mostNow {
			t.Fatalf("Granted(%+v, 0, 0) = %+v, %d", m, x, code)
		}
	}
}

// Work that meets its limit behind it, and is one past it; of who does not work it may be at its limit all the while.
func TestWorkAtItsLimit(t *testing.T) {
	for _, force := range []int64{1, 2, 200, 1023, 1024} {
		m := smithyWith(fmt.Sprint("2 ", force, ":1"), nil, smith(impl.SmWorks, 0, 0, 5), smith(impl.SmWorks, 1, 0, 5), smith(impl.SmAway, 0, 0, 5), smith(impl.SmWaits, 1, 3, 5))
		m.Smiths[2].Work, m.Smiths[3].Work = mostWork, mostWork
		for n := int64(1); n <= mostTick; n++ {
			for who := range 2 {
				for _, past := range []int64{-2, -1, 0, 1, 2} {
					if past > n*force {
						continue
					}
					x := lendSmithy(m)
					x.Smiths[who].Work = mostWork - n*force + past
					code := int64(impl.OpDone)
					if past > 0 {
						code = impl.OpFull
					}
					y := checkCode(t, "Work near its limit", x, ticking(n), code)
					if code == impl.OpDone && (y.Smiths[who].Work != mostWork+past || y.Smiths[1-who].Work != n*force || y.Smiths[2].Work != mostWork || y.Smiths[3].Work != mostWork) {
						t.Fatalf("Ticked(%+v, %d) = %+v", x, n, y)
					}
				}
			}
		}
		m.Smiths[0].Work = mostWork
		checkCode(t, "Work at its limit", m, ticking(1), impl.OpFull)
		m.Smiths[0].State, m.Desks[0].Who = impl.SmAway, -1
		checkCode(t, "Work at its limit of one who is away", m, ticking(20), impl.OpDone)
	}
}

// checkAtBandEdge has one who works so far ahead that it is just at the Lead behind it, with one more or less.
func checkAtBandEdge(t *testing.T, mark, rank, force, n, carry int64, others ...impl.Smith) {
	t.Helper()
	share, left := wantShare(n*force, weightAt(rank), carry)
	for _, past := range []int64{-1, 0, 1} {
		s := smith(impl.SmWorks, 0, mark+lead-share+past, 77)
		s.Rank, s.Carry = rank, carry
		if s.Had > mark+lead {
			continue
		}
		m := smithyWith(fmt.Sprint("1 ", force, ":7"), nil, append([]impl.Smith{s}, others...)...)
		m.Desks[0].Mark = mark
		for i := range others {
			m.Smiths[i+1].Had += mark
		}
		code := int64(impl.OpDone)
		if past > 0 {
			code = impl.OpFull
		}
		x := checkCode(t, "near the Lead", m, ticking(n), code)
		if is := x.Smiths[0]; code == impl.OpDone && (is.Had != mark+lead+past || is.Carry != left) {
			t.Fatalf("Ticked(%+v, %d) = %+v", m, n, x)
		}
	}
}

// A Had that meets the edge of its band behind it, and is one past it, at all Marks there may be.
func TestWhoWouldBeOutOfTheBand(t *testing.T) {
	for _, mark := range []int64{-mostMark, -mostMark + 1, -lead, -1, 0, 1, 5000, billion, mostMark - lead, mostMark - 1, mostMark} {
		for _, rank := range []int64{-5, -1, 0, 1, 5} {
			for _, force := range []int64{1, 200, 1024} {
				for _, n := range []int64{1, 2, 19, 20} {
					checkAtBandEdge(t, mark, rank, force, n, 0)
					checkAtBandEdge(t, mark, rank, force, n, weightAt(rank)-1)
					checkAtBandEdge(t, mark, rank, force, n, 3, smith(impl.SmWaits, 0, 0, 5), smith(impl.SmWaits, 0, lead, 5), smith(impl.SmWaits, 0, -credit, 5))
				}
			}
		}
	}
}

// Whoever had no more than the Mark is never out of the band behind it, be it charged all there may be.
func TestWhoHadTheMarkStaysInTheBand(t *testing.T) {
	for _, mark := range []int64{-mostMark, -5, 0, 5, mostMark - 62602, mostMark} {
		for rank := int64(-5); rank <= 5; rank++ {
			for _, behind := range []int64{0, 1, credit} {
				s := smith(impl.SmWorks, 0, mark-behind, 1024)
				s.Rank, s.Carry = rank, weightAt(rank)-1
				m := smithyWith("1 1024:1", nil, s, smith(impl.SmWaits, 0, mark+lead, 0))
				m.Desks[0].Mark = mark
				for n := int64(1); n <= mostTick; n++ {
					checkCode(t, "all there may be", m, ticking(n), impl.OpDone)
				}
			}
		}
	}
}

// A Mark at its limit stays there: whoever works goes on ahead of it, until it would be out of the band.
func TestAMarkAtItsLimit(t *testing.T) {
	m := smithyWith("1 1000:1", nil, smith(impl.SmWorks, 0, mostMark-1000, 9))
	m.Desks[0].Mark = mostMark - 1000
	for had := int64(mostMark); had <= mostMark+lead; had += 1000 {
		m = checkCode(t, "up to the Lead", m, ticking(1), impl.OpDone)
		if m.Smiths[0].Had != had || m.Desks[0].Mark != mostMark {
			t.Fatalf("Had is %d, not %d: %+v", m.Smiths[0].Had, had, m)
		}
	}
	for n := int64(1); n <= mostTick; n++ {
		checkCode(t, "at the Lead", m, ticking(n), impl.OpFull)
	}
	// Another one that had less has its turn as long as the first one is there.
	m.Smiths = append(m.Smiths, smith(impl.SmWaits, 0, mostMark, 9))
	x := checkCode(t, "at the Lead, and one waits", m, ticking(1), impl.OpFull)
	if !sameSmithy(x, m) {
		t.Fatalf("%+v became %+v", m, x)
	}
	m = impl.Turned(m)
	for n := int64(1); n <= mostTick; n++ {
		x := checkCode(t, "who waited works", m, ticking(n), impl.OpDone)
		if x.Smiths[1].Had != mostMark+1000*n || x.Desks[0] != (impl.Desk{Open: true, Who: 1, Mark: mostMark}) {
			t.Fatalf("Ticked(%+v, %d) = %+v", m, n, x)
		}
	}
	low := smithyWith("1 1000:1", nil, smith(impl.SmWorks, 0, -mostMark, 9))
	low.Desks[0].Mark = -mostMark
	x = checkCode(t, "the least Mark", low, ticking(1), impl.OpDone)
	if x.Desks[0].Mark != -mostMark+1000 || x.Smiths[0].Had != -mostMark+1000 {
		t.Fatalf("Ticked(%+v, 1) = %+v", low, x)
	}
}

// The band is that of the Mark ahead of the turn: who would be out of it is refused, though the Mark would rise.
func TestTheMarkAheadOfTheTurnCounts(t *testing.T) {
	m := smithyWith("1 1000:1", nil, smith(impl.SmWorks, 0, lead-1000, 9))
	x := checkCode(t, "just in the band", m, ticking(1), impl.OpDone)
	if x.Smiths[0].Had != lead || x.Desks[0].Mark != lead {
		t.Fatalf("Ticked(%+v, 1) = %+v", m, x)
	}
	checkCode(t, "one more", m, ticking(2), impl.OpFull)
	checkCode(t, "Turned ahead of it", impl.Turned(m), ticking(20), impl.OpDone)
}

// Where one of those who work can't be Charged nobody is, be it the first one or the last one.
func TestWhereOneIsRefusedNobodyWorks(t *testing.T) {
	for full := range 8 {
		smiths := []impl.Smith{}
		for bench := range int64(8) {
			smiths = append(smiths, smith(impl.SmWorks, bench, 0, 500))
		}
		m := smithyWith(eightHall, nil, smiths...)
		checkCode(t, "none at its limit", m, ticking(3), impl.OpDone)
		work := lendSmithy(m)
		work.Smiths[full].Work = mostWork
		checkCode(t, "Work at its limit", work, ticking(3), impl.OpFull)
		had := lendSmithy(m)
		had.Smiths[full].Had = lead
		checkCode(t, "Had at the Lead", had, ticking(3), impl.OpFull)
		rest, _ := impl.Rest(work, int64(full))
		checkCode(t, "who is at its limit rests", rest, ticking(3), impl.OpDone)
	}
}

// Nobody, nobody that works, and all benches at work: what all together worked is n times the Forces at work.
func TestHowManyWork(t *testing.T) {
	for _, text := range []string{"1 50:5", benchHall, dearHall, eightHall, "1 1:1/1 2:2/1 3:3"} {
		benches := len(emptySmithy(text).Desks)
		for set := range int64(1) << benches {
			m := emptySmithy(text)
			forces := int64(0)
			for bench, d := range m.Desks {
				s := smith(impl.SmAway, int64(bench), 5, 1000)
				if impl.InSet(set, int64(bench)) {
					s.State, d.Who = impl.SmWorks, int64(bench)
					forces += m.Hall.Rooms[wantRooms(m.Hall)[bench]].Paces[0].Force
				}
				m.Smiths, m.Desks[bench] = append(m.Smiths, s), d
			}
			for _, n := range []int64{1, 5, 20} {
				x := checkCode(t, "some at work", m, ticking(n), impl.OpDone)
				if workOfAll(x) != n*forces {
					t.Fatalf("%v worked %d in %d, where %d is at work", impl.Members(set), workOfAll(x), n, forces)
				}
				for bench, s := range x.Smiths {
					if impl.InSet(set, int64(bench)) == (s.Work == 0) || s.State != m.Smiths[bench].State || s.Util > 1000+n {
						t.Fatalf("Ticked(%+v, %d) = %+v", m, n, x)
					}
				}
				checkTicking(t, m, n)
			}
		}
	}
}

// Each room at each of its Paces, whatever the others have: it is the Pace that the room has, and not the last one there.
func TestEveryPaceOfEveryRoom(t *testing.T) {
	m := smithyWith("1 10:1 20:2 30:3 40:4/2 7:7/1 100:1 300:2 900:3", nil, smith(impl.SmWorks, 0, 0, 5), smith(impl.SmWorks, 1, 0, 5), smith(impl.SmWorks, 2, 0, 5), smith(impl.SmWorks, 3, 0, 5))
	for first, one := range []int64{10, 20, 30, 40} {
		for last, other := range []int64{100, 300, 900} {
			x := checkCode(t, "the first room", m, granting(0, int64(first)), impl.OpDone)
			x = checkCode(t, "the last room", x, granting(2, int64(last)), impl.OpDone)
			for n := int64(1); n <= mostTick; n++ {
				y := checkCode(t, "each Pace", x, ticking(n), impl.OpDone)
				for who, force := range []int64{one, 7, 7, other} {
					if y.Smiths[who].Work != n*force || y.Smiths[who].Util != impl.FadedMany(5, force, n) {
						t.Fatalf("behind %d with %v %d is %+v", n, x.Paces, who, y.Smiths[who])
					}
				}
			}
		}
	}
}

// A Util of each kind goes towards the Force of who works, and towards 0 of all others.
func TestUtilsFade(t *testing.T) {
	for _, force := range []int64{1, 32, 500, 1024} {
		for util := int64(0); util <= 1024; util += 1 + util%5 {
			m := smithyWith(fmt.Sprint("1 ", force, ":1"), nil,
				smith(impl.SmWorks, 0, 0, util), smith(impl.SmWaits, 0, lead, util), smith(impl.SmAway, 0, 0, util), gone())
			for _, n := range []int64{1, 20} {
				x := checkCode(t, "each Util", m, ticking(n), impl.OpDone)
				works, waits, away := x.Smiths[0].Util, x.Smiths[1].Util, x.Smiths[2].Util
				if !isFrom(works, min(util, force), max(util, force)) || waits != impl.FadedMany(util, 0, n) || away != waits || util > 0 && waits >= util {
					t.Fatalf("behind %d %d became %d, %d and %d", n, util, works, waits, away)
				}
				if util > force && works >= util || works != impl.FadedMany(util, force, n) {
					t.Fatalf("behind %d %d became %d, with %d", n, util, works, force)
				}
			}
		}
	}
}

// Where nobody waits it is of no matter whether time goes by at once or in parts.
func TestTimeAtOnceAndInParts(t *testing.T) {
	m := fullSmithy()
	for who, s := range m.Smiths {
		if s.State == impl.SmWaits {
			m.Smiths[who].State = impl.SmAway
		}
	}
	for _, right := range []impl.Smithy{m, emptySmithy(benchHall), smithyWith(dearHall, nil, smith(impl.SmWorks, 0, 0, 5), smith(impl.SmWorks, 2, 7, 1000), smith(impl.SmAway, 0, 0, 90))} {
		for n := int64(2); n <= mostTick; n++ {
			once := checkCode(t, "at once", right, ticking(n), impl.OpDone)
			for part := int64(1); part < n; part++ {
				first := checkCode(t, "in parts", right, ticking(part), impl.OpDone)
				second := checkCode(t, "in parts", first, ticking(n-part), impl.OpDone)
				if !sameSmithy(second, once) {
					t.Fatalf("%d and %d: %+v, and at once %+v", part, n-part, second, once)
				}
			}
		}
	}
}

// All the time the one works that was at work ahead of it; only behind it the next one has its turn.
func TestWhoWorksStaysAtItForAWhile(t *testing.T) {
	m := smithyWith("1 100:1", nil, smith(impl.SmWorks, 0, 0, 0), smith(impl.SmWaits, 0, 0, 0), smith(impl.SmWaits, 0, 0, 0))
	for round := int64(1); round <= 12; round++ {
		who := (round - 1) % 3
		x := checkCode(t, "one after the other", m, ticking(20), impl.OpDone)
		for other, s := range x.Smiths {
			want := m.Smiths[other].Work
			if int64(other) == who {
				want += 2000
			}
			if s.Work != want {
				t.Fatalf("in round %d %d worked %d, not %d", round, other, s.Work, want)
			}
		}
		if next := round % 3; x.Desks[0].Who != next || x.Desks[0].Mark != round/3*2000 {
			t.Fatalf("behind round %d: %+v", round, x.Desks[0])
		}
		m = x
	}
	// One that weighs twice as much and more has its turn as much more often.
	m.Smiths[0].Rank, m.Smiths[0].Carry = -4, 0
	before := m
	for range 300 {
		m = checkCode(t, "by weight", m, ticking(5), impl.OpDone)
	}
	heavy, light := m.Smiths[0].Work-before.Smiths[0].Work, m.Smiths[1].Work-before.Smiths[1].Work
	if 10*heavy < 23*light || 10*heavy > 26*light || heavy+light+m.Smiths[2].Work-before.Smiths[2].Work != 300*500 {
		t.Fatalf("%d and %d", heavy, light)
	}
}

// Every need from none to more than any Pace has, in rooms of one Pace to four: of one bench, and of the greatest of four.
func TestWantedOfEveryNeed(t *testing.T) {
	counted := codes{}
	for _, paces := range somePaces() {
		if len(paces) == 0 || !wantRoomOk(roomWith(1, paces...)) {
			continue
		}
		text := impl.ShowHall(hallWith(roomWith(1, impl.Pace{Force: 1, Coal: 1}), roomWith(4, paces...)))
		for need := int64(0); need <= 1300; need++ {
			most, more := min(need, 1024), max(need-1024, 0)
			m := smithyWith(text, nil, smith(impl.SmWorks, 0, 0, 1024), smith(impl.SmWorks, 1, 0, need/2), smith(impl.SmWorks, 3, 0, most), smith(impl.SmWaits, 3, 0, more), smith(impl.SmAway, 2, 0, 1024))
			if impl.NeedIn(m, 1) != need {
				t.Fatalf("%d is needed, not %d: %+v", impl.NeedIn(m, 1), need, m)
			}
			if got, want := impl.Wanted(m, 1), wantPaceFor(roomWith(1, paces...), need); got != want {
				t.Fatalf("Wanted where %d is needed = %d, not %d: %+v", need, got, want, paces)
			}
			counted[fmt.Sprint("enough ", checkWanting(t, m, 1))]++
			checkWantedAnswers(t, m, -1, 0, 1, 2)
		}
	}
	counted.checkAtLeast(t, 300, "enough true", "enough false")
}

// Whatever Pace a room has now is of no matter to the one that is Wanted; nor is it what is at work in other rooms.
func TestWantedHangsOnTheNeedAlone(t *testing.T) {
	for _, m := range append(rightSmithies(), dearSmithy()) {
		for room, r := range m.Hall.Rooms {
			want := impl.Wanted(m, int64(room))
			for other, o := range m.Hall.Rooms {
				for pace := range o.Paces {
					if got := impl.Wanted(withPace(m, int64(other), int64(pace)), int64(room)); got != want {
						t.Fatalf("Wanted %d is %d where %d has %d, and was %d: %+v", room, got, other, pace, want, m)
					}
				}
			}
			alone := lendSmithy(m)
			for who, s := range alone.Smiths {
				if s.State >= impl.SmWaits && wantRooms(m.Hall)[s.Bench] != int64(room) {
					alone.Smiths[who].State, alone.Desks[s.Bench].Who = impl.SmAway, -1
				}
			}
			if got := impl.Wanted(alone, int64(room)); got != want || len(r.Paces) == 1 && want != 0 {
				t.Fatalf("Wanted %d is %d where nobody is elsewhere, and was %d: %+v", room, got, want, m)
			}
		}
	}
}

// Where several codes apply it is the one named first.
func TestSeveralCodesOfWhilesAtOnce(t *testing.T) {
	m := smithyWith(benchHall, nil, smith(impl.SmWorks, 0, lead, 5), gone())
	m.Now, m.Smiths[0].Work = mostNow, mostWork
	for _, k := range []struct {
		what string
		a    asked
		code int64
	}{
		{"no n, and no more time", ticking(0), impl.OpRange},
		{"an n too long, and no more time", ticking(21), impl.OpRange},
		{"an n below 0, which is as if there were time", ticking(-5), impl.OpRange},
		{"no more time, and Had and Work at their limits", ticking(1), impl.OpFull},
		{"no room and no Pace", granting(2, 2), impl.OpNone},
		{"no room and no Pace below", granting(-1, -1), impl.OpNone},
		{"no room", granting(2, 0), impl.OpNone},
		{"no Pace", granting(1, 2), impl.OpRange},
		{"the last Pace of the last room", granting(1, 1), impl.OpDone},
	} {
		checkCode(t, k.what, m, k.a, k.code)
	}
	m.Now = mostNow + 1
	checkNoWhile(t, "a Now past its limit, and all else that may be refused", m, whilesOf(m, fewTimes()...)...)
	m.Now = -1
	checkNoWhile(t, "a Now below 0, and all else that may be refused", m, whilesOf(m, fewTimes()...)...)
}

// Behind all that is done each bench is Turned, those too where nobody works; what is refused is not Turned.
func TestAllBenchesAreTurnedBehindAWhile(t *testing.T) {
	m := smithyWith("2 300:9/1 300:9 600:20", nil,
		smith(impl.SmWorks, 0, 900, 5), smith(impl.SmWaits, 0, 4, 5), smith(impl.SmWorks, 1, 7, 5), smith(impl.SmAway, 2, 0, 5), gone())
	for _, a := range []asked{ticking(1), ticking(20), granting(0, 0), granting(1, 0), granting(1, 1)} {
		x := checkCode(t, "all are Turned", m, a, impl.OpDone)
		if x.Desks[0] != (impl.Desk{Open: true, Who: 1, Mark: 4}) || x.Smiths[0].State != impl.SmWaits || x.Smiths[1].State != impl.SmWorks || x.Desks[1].Mark < 7 {
			t.Errorf("%s = %+v", a.name, x)
		}
	}
	m.Now = mostNow
	for _, a := range []asked{ticking(0), ticking(1), ticking(21), granting(0, 1), granting(1, 2), granting(2, 0), granting(-1, 0)} {
		x, code := a.got(m)
		if code == impl.OpDone || !sameSmithy(x, m) || sameSmithy(x, impl.Turned(m)) {
			t.Errorf("%s = %+v, %d", a.name, x, code)
		}
	}
}

// What is no n, no room or no Pace, up to the extremes.
func TestNumbersOfWhilesOutOfRange(t *testing.T) {
	for _, right := range []impl.Smithy{middleSmithy(), impl.Turned(fullSmithy()), emptySmithy("1 1:1")} {
		m := lendSmithy(right)
		rooms := int64(len(m.Hall.Rooms))
		for _, n := range noWhiles {
			if !isFrom(n, 1, mostTick) {
				checkCode(t, "no n", m, ticking(n), impl.OpRange)
			}
		}
		for _, n := range slices.Concat(noRooms, extremes, wrongInAnyField) {
			if !isFrom(n, 0, rooms-1) {
				for _, pace := range []int64{-1, 0, 1, 4, n} {
					checkCode(t, "no room", m, granting(n, pace), impl.OpNone)
				}
				if got := impl.Wanted(m, n); got != -1 {
					t.Fatalf("Wanted(%+v, %d) = %d", m, n, got)
				}
			}
			for room := range rooms {
				if !isFrom(n, 0, int64(len(m.Hall.Rooms[room].Paces))-1) {
					checkCode(t, "no Pace", m, granting(room, n), impl.OpRange)
				}
			}
		}
	}
}

// strained lets Now, or one's Work, be near its limit now and then.
func strained(l *lots, m impl.Smithy) impl.Smithy {
	x := lendSmithy(m)
	if l.below(3) == 0 {
		x.Now = mostNow - l.below(25)
	}
	for who, s := range x.Smiths {
		if s.State >= impl.SmAway && l.below(6) == 0 {
			x.Smiths[who].Work = mostWork - l.below(3000)
		}
	}
	return x
}

// calm lets all be near their Mark, so that there is room in the band.
func calm(l *lots, m impl.Smithy) impl.Smithy {
	x := lendSmithy(m)
	for who, s := range x.Smiths {
		if s.State >= impl.SmWaits {
			x.Smiths[who].Had = x.Desks[s.Bench].Mark + oneOf[int64](l, -300, -1, 0, 0, 1, 2, 300)
		}
	}
	return x
}

// Every hall from one bench to eight, with none to twelve smiths of all states, ranks, guilds, bounds, Utils and Mays, and
// rooms at each of their Paces.
func TestManySmithiesForAWhile(t *testing.T) {
	l, counted := lots(17), codes{}
	for _, h := range rightHalls(t) {
		for count := range mostSmiths + 1 {
			m := withTurns(&l, drawnSmithy(&l, h, count))
			for i, x := range []impl.Smithy{m, calm(&l, m), strained(&l, calm(&l, m)), eased(&l, impl.Turned(m), 300)} {
				times := []int64{1, 1 + l.below(mostTick), mostTick, l.below(24) - 1}
				checkPromise17(t, x, counted, times...)
				checkWantedAnswers(t, x, upTo(len(x.Hall.Rooms))...)
				if (count+i)%3 == 0 {
					checkAsked(t, x, whilesOf(x, times...)...)
				} else {
					checkAnswers(t, x, whilesOf(x, times...)...)
				}
			}
		}
	}
	counted.checkAtLeast(t, 300, "Ticked 0", "Ticked 3", "Ticked 4", "Granted 0", "Granted 1", "Granted 3", "Wanted is enough true", "Wanted is enough false")
}

func TestRightSmithiesForAWhile(t *testing.T) {
	for _, m := range append(rightSmithies(), dearSmithy()) {
		checkWhiles(t, m, fewTimes()...)
		checkWhiles(t, impl.Turned(m), fewTimes()...)
	}
	for _, h := range rightHalls(t) {
		m, _ := impl.NewSmithy(h)
		checkWhiles(t, m, fewTimes()...)
	}
}

// One thing after the other, of this chapter and of both ahead: all that was worked is as much as time by Force.
func TestLongWhiles(t *testing.T) {
	l, counted := lots(1717), codes{}
	for _, text := range []string{"1 50:5", "1 90:9 200:20/1 50:1 700:2 1024:3", benchHall, dearHall, eightHall} {
		for range 6 {
			m := emptySmithy(text)
			m.Guilds = someGuilds()
			for range 80 {
				m = steppedInTime(t, &l, counted, steppedAnyhow(t, &l, counted, stepped(t, &l, counted, m)))
			}
			if m.Now == 0 || !impl.SmithyOk(m) {
				t.Fatalf("%+v", m)
			}
		}
	}
	counted.checkAtLeast(t, 100, "Ticked 0", "Ticked 3", "Granted 0", "Granted 3")
}

// steppedInTime lets a while go by, or grants what is Wanted or anything.
func steppedInTime(t *testing.T, l *lots, counted codes, m impl.Smithy) impl.Smithy {
	t.Helper()
	n, room, pace := l.below(24)-1, l.below(len(m.Hall.Rooms)), l.below(5)
	a := ticking(n)
	switch oneOf(l, "tick", "tick", "tick", "ask", "grant") {
	case "tick":
		counted.add("Ticked", checkTicking(t, m, n))
	case "ask":
		a = granting(room, impl.Wanted(m, room))
		counted[fmt.Sprint("enough ", checkWanting(t, m, room))]++
	case "grant":
		a = granting(room, pace)
		counted.add("Granted", checkGranting(t, m, room, pace))
	}
	checkAsked(t, m, a)
	x, _ := a.got(m)
	return x
}

// A smithy that is left to itself: of who stays at work all the while, and of all together, as long as time lasts.
func TestAllOfTheTimeThereIs(t *testing.T) {
	m := smithyWith("1 3:1 1024:2/1 1000:1", nil, smith(impl.SmWorks, 0, 0, 0), smith(impl.SmWorks, 1, 0, 0), smith(impl.SmWaits, 1, 0, 0))
	for now := int64(0); now < mostNow; now += mostTick {
		x, code := impl.Ticked(m, mostTick)
		if code != impl.OpDone {
			t.Fatalf("at %d it is refused by %d: %+v", now, code, m)
		}
		m = x
		if now == mostNow/2-mostTick {
			m, _ = impl.Granted(m, 0, 1)
		}
	}
	if m.Now != mostNow || m.Smiths[0].Work != mostNow/2*(3+1024) || m.Smiths[1].Work != mostNow/2*1000 || m.Smiths[2].Work != mostNow/2*1000 {
		t.Fatalf("%+v", m)
	}
	if m.Smiths[0].Util > 1024 || m.Smiths[0].Util < 900 || m.Smiths[0].Had != m.Smiths[0].Work {
		t.Fatalf("%+v", m.Smiths[0])
	}
	checkCode(t, "no more time", m, ticking(1), impl.OpFull)
}

// Each part that chapter 11 names, wrong one at a time, and all that may be wrong in whose turn it is.
func TestOfWhatIsWrongNoTimeGoesBy(t *testing.T) {
	for what, m := range wrongSmithies {
		checkNoWhile(t, what, m, allWhiles(3, fewTimes()...)...)
	}
}

// The least and the greatest int64, and others that are right nowhere, in each number of each part and in all of them.
func TestWhilesOfWrongNumbersInEveryPart(t *testing.T) {
	list := allWhiles(3, fewTimes()...)
	for _, n := range []int64{math.MinInt64, math.MaxInt64} {
		list = append(list, ticking(n), granting(n, n), granting(0, n), granting(n, 0))
	}
	for what, m := range wrongNumbersInEveryPart {
		checkNoWhile(t, what, m, list...)
		for _, n := range extremes {
			if pace := impl.Wanted(m, n); pace != -1 {
				t.Fatalf("Wanted %d with %s = %d: %+v", n, what, pace, m)
			}
		}
	}
}

func TestWhilesOfEveryNumberALittleOff(t *testing.T) {
	for _, right := range []impl.Smithy{middleSmithy(), dearSmithy()} {
		list := whilesOf(right, 0, 1, 20, 21)
		for m := range aLittleOff(right) {
			checkAnswers(t, m, list...)
			checkWantedAnswers(t, m, upTo(2)...)
		}
	}
}

func TestWhilesOfWhatMeetsItsLimits(t *testing.T) {
	for i, m := range whatMeetsItsLimits {
		checkWhiles(t, m, fewTimes()...)
		for _, room := range []int64{0, 1} {
			if _, code := impl.Granted(m, room, 1); code != impl.OpDone || impl.Wanted(m, room) == -1 {
				t.Errorf("limit %d: of room %d it is refused by %d, and Wanted is %d", i, room, code, impl.Wanted(m, room))
			}
		}
	}
}

func TestWhilesOfEmptyAndNilLists(t *testing.T) {
	for what, m := range withListsDropped {
		checkNoWhile(t, what, m, allWhiles(3, fewTimes()...)...)
	}
	for _, text := range []string{"1 1:1", benchHall, eightHall} {
		m := emptySmithy(text)
		checkWhiles(t, m, fewTimes()...)
		m.Guilds, m.Smiths = nil, nil
		checkWhiles(t, m, fewTimes()...)
		x := checkCode(t, "no smiths", m, ticking(20), impl.OpDone)
		m.Now = 20
		if !sameSmithy(x, m) {
			t.Errorf("%+v became %+v", m, x)
		}
	}
}

func TestWhilesAreNewMemory(t *testing.T) {
	for _, m := range append(rightSmithies(), dearSmithy()) {
		checkWrittenNowhereElse(t, m, whilesOf(m, fewTimes()...)...)
		m.Now = mostNow
		checkWrittenNowhereElse(t, m, ticking(1))
	}
}

func TestWhilesShareNoPaces(t *testing.T) { checkPacesApart(t, allWhiles(3, fewTimes()...)...) }

func TestWhilesOfSmallSmithies(t *testing.T) {
	list := append(allWhiles(2, 1, 20, 21), granting(0, 0), granting(1, 1))
	for m := range smallSmithies {
		if wantSmithyOk(m) {
			checkAnswers(t, m, list...)
			checkWantedAnswers(t, m, -1, 0, 1, 2)
		} else {
			checkAnswers(t, m, ticking(1), granting(0, 0))
			checkWantedAnswers(t, m, 0)
		}
	}
}
