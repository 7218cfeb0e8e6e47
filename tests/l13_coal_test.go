package tests

import (
	"fmt"
	"math"
	"reflect"
	"slices"
	"testing"

	"loop.example/g00553/impl"
)

// dearHall has the Forces of the hall of the bench, and so much Coal that little of it is lost when it is divided.
const dearHall = "2 200:100 400:300/1 512:200 1024:800"

// noRooms holds what is no place of a room in any right hall.
var noRooms = slices.Concat(wrongPlaces, noPlaces, []int64{3, 4, 7, 8})

// dearSmithy has one of each state, and one more that works.
func dearSmithy() impl.Smithy {
	return smithyWith(dearHall, nil, smith(impl.SmWorks, 0, 0, 100), smith(impl.SmWorks, 1, 0, 200), smith(impl.SmWaits, 0, 5, 50), smith(impl.SmAway, 2, 9, 300), gone())
}

// wantUsed holds what is used at each bench there is; nothing where the smithy is not right.
func wantUsed(m impl.Smithy) []int64 {
	if !wantSmithyOk(m) {
		return nil
	}
	return wantUsedNow(m)
}

// wantUsedNow is asked of what is right, and of what is on the way to that.
func wantUsedNow(m impl.Smithy) []int64 {
	used := make([]int64, len(m.Desks))
	for _, s := range m.Smiths {
		if s.State >= 2 {
			used[s.Bench] += wantWant(m, s)
		}
	}
	return used
}

// wantLoad goes through all benches and takes those of the room: what it needs, and the work.
func wantLoad(m impl.Smithy, used []int64, room int64) (int64, int64) {
	need, work := int64(0), int64(0)
	for bench, of := range wantRooms(m.Hall) {
		if of != room {
			continue
		}
		work += used[bench]
		if m.Desks[bench].Open && used[bench] > need {
			need = used[bench]
		}
	}
	return need, work
}

func wantCost(m impl.Smithy, used []int64, room int64) int64 {
	need, work := wantLoad(m, used, room)
	r := m.Hall.Rooms[room]
	return wantCoalFor(r, wantPaceFor(r, need), work)
}

func wantCosts(m impl.Smithy, used []int64) int64 {
	sum := int64(0)
	for room := range m.Hall.Rooms {
		sum += wantCost(m, used, int64(room))
	}
	return sum
}

// wantCoalWith takes what who wants from one bench and lays it down at the other one, where the program moves who.
func wantCoalWith(m impl.Smithy, used []int64, who, bench int64) int64 {
	if stateOf(m, who) == 0 || !isFrom(bench, 0, int64(len(used))-1) || !m.Desks[bench].Open {
		return -1
	}
	s, then := m.Smiths[who], slices.Clone(used)
	want := wantWant(m, s)
	if s.State >= 2 {
		then[s.Bench] -= want
	}
	then[bench] += want
	return wantCosts(m, then)
}

func checkRoom(t *testing.T, m impl.Smithy, used []int64, room int64) {
	t.Helper()
	need, coal := int64(-1), int64(-1)
	if len(used) > 0 && isFrom(room, 0, int64(len(m.Hall.Rooms))-1) {
		need, _ = wantLoad(m, used, room)
		coal = wantCost(m, used, room)
	}
	if got := impl.NeedIn(m, room); got != need {
		t.Fatalf("NeedIn(%+v, %d) = %d, not %d", m, room, got, need)
	}
	if got := impl.CoalIn(m, room); got != coal {
		t.Fatalf("CoalIn(%+v, %d) = %d, not %d", m, room, got, coal)
	}
}

// checkCoalAnswers holds all of the chapter against a reckoning, of any smithy at all.
func checkCoalAnswers(t *testing.T, m impl.Smithy, rooms, whos, benches []int64) {
	t.Helper()
	used, all := wantUsed(m), int64(-1)
	if len(used) > 0 {
		all = wantCosts(m, used)
	}
	if got := impl.CoalOf(m); got != all {
		t.Fatalf("CoalOf(%+v) = %d, not %d", m, got, all)
	}
	for _, room := range rooms {
		checkRoom(t, m, used, room)
	}
	for _, who := range whos {
		for _, bench := range benches {
			if got, want := impl.CoalWith(m, who, bench), wantCoalWith(m, used, who, bench); got != want {
				t.Fatalf("CoalWith(%+v, %d, %d) = %d, not %d", m, who, bench, got, want)
			}
		}
	}
}

// upTo holds all from -1 to one past the last of that many.
func upTo(count int) []int64 {
	list := []int64{}
	for n := int64(-1); n <= int64(count); n++ {
		list = append(list, n)
	}
	return list
}

// checkCoal asks all of it as it is and as it is lent, and that nothing was written to.
func checkCoal(t *testing.T, m impl.Smithy) {
	t.Helper()
	for _, given := range []impl.Smithy{m, lendSmithy(m)} {
		before := toTheBrim(given)
		checkCoalAnswers(t, given, upTo(len(m.Hall.Rooms)), upTo(len(m.Smiths)), upTo(len(m.Desks)))
		if after := toTheBrim(given); !reflect.DeepEqual(after, before) {
			t.Fatalf("%+v became %+v", before, after)
		}
	}
}

// putThere is a smithy that is right, in which who is at that bench alone, and may work there.
func putThere(t *testing.T, m impl.Smithy, who, bench int64) impl.Smithy {
	t.Helper()
	x := lendSmithy(m)
	s := &x.Smiths[who]
	s.State, s.Bench, s.Had = impl.SmWaits, bench, x.Desks[bench].Mark
	s.May |= 1 << bench
	x = impl.Turned(x)
	if !impl.SmithyOk(x) {
		t.Fatalf("%d is not at %d: %+v", who, bench, x)
	}
	return x
}

// checkCostOfRooms is the first half of the promise, by its words: what the rooms need and cost, one by one.
func checkCostOfRooms(t *testing.T, m impl.Smithy) {
	t.Helper()
	sum := int64(0)
	for room, r := range m.Hall.Rooms {
		greatest, work := int64(0), int64(0)
		for _, bench := range impl.Members(impl.BenchSet(m.Hall, int64(room))) {
			used := impl.UsedAt(m, bench)
			work += used
			if m.Desks[bench].Open {
				greatest = max(greatest, used)
			}
		}
		need, coal := impl.NeedIn(m, int64(room)), impl.CoalIn(m, int64(room))
		if need != greatest || coal != impl.LeastCoal(r, need, work) || coal < 0 {
			t.Fatalf("room %d needs %d and costs %d, where %d is the most and %d all: %+v", room, need, coal, greatest, work, m)
		}
		sum += coal
	}
	if coal := impl.CoalOf(m); coal != sum {
		t.Fatalf("CoalOf(%+v) = %d, and the rooms cost %d", m, coal, sum)
	}
}

// checkPromise13 is the promise by its words, of a smithy that is right: coal is what the rooms cost.
func checkPromise13(t *testing.T, m impl.Smithy) {
	t.Helper()
	checkCostOfRooms(t, m)
	for who, s := range m.Smiths {
		for bench, d := range m.Desks {
			coal := impl.CoalWith(m, int64(who), int64(bench))
			if s.State == impl.SmGone || !d.Open {
				if coal != -1 {
					t.Fatalf("CoalWith(%+v, %d, %d) = %d", m, who, bench, coal)
				}
				continue
			}
			if then := impl.CoalOf(putThere(t, m, int64(who), int64(bench))); coal != then {
				t.Fatalf("CoalWith(%+v, %d, %d) = %d, and it costs %d there", m, who, bench, coal, then)
			}
			if s.State != impl.SmAway && s.Bench == int64(bench) && coal != impl.CoalOf(m) {
				t.Fatalf("CoalWith(%+v, %d, %d) = %d, where it is", m, who, bench, coal)
			}
		}
	}
}

func checkCoalOfRight(t *testing.T, what string, m impl.Smithy) {
	t.Helper()
	if !impl.SmithyOk(m) || impl.CoalOf(m) < 0 {
		t.Fatalf("not SmithyOk with %s, or CoalOf is %d: %+v", what, impl.CoalOf(m), m)
	}
	checkCoal(t, m)
	checkPromise13(t, m)
}

// checkNoCoal asks for the answers that the chapter names for a smithy that is not right.
func checkNoCoal(t *testing.T, what string, m impl.Smithy) {
	t.Helper()
	lent := lendSmithy(m)
	before := toTheBrim(lent)
	if impl.SmithyOk(lent) || impl.CoalOf(lent) != -1 {
		t.Fatalf("CoalOf with %s = %d: %+v", what, impl.CoalOf(lent), m)
	}
	for _, room := range upTo(3) {
		if need, coal := impl.NeedIn(lent, room), impl.CoalIn(lent, room); need != -1 || coal != -1 {
			t.Fatalf("room %d with %s needs %d and costs %d: %+v", room, what, need, coal, m)
		}
	}
	for _, who := range upTo(mostSmiths) {
		for _, bench := range upTo(8) {
			if coal := impl.CoalWith(lent, who, bench); coal != -1 {
				t.Fatalf("CoalWith %d at %d with %s = %d: %+v", who, bench, what, coal, m)
			}
		}
	}
	if after := toTheBrim(lent); !reflect.DeepEqual(after, before) {
		t.Fatalf("%+v became %+v", before, after)
	}
}

func TestCoalCases(t *testing.T) {
	cases := []struct {
		m           impl.Smithy
		needs, coal []int64
		all         int64
	}{
		{fullSmithy(), []int64{1074, 665, 1112}, []int64{7, 22, 8}, 37},
		{middleSmithy(), []int64{600, 800}, []int64{4, 6}, 10},
		{dearSmithy(), []int64{200, 0}, []int64{262, 0}, 262},
		{emptySmithy(benchHall), []int64{0, 0}, []int64{0, 0}, 0},
		{emptySmithy("1 1:1"), []int64{0}, []int64{0}, 0},
		{smithyWith("1 1:1024", nil, smith(impl.SmWorks, 0, 0, 1024)), []int64{1024}, []int64{1024 * 1024}, 1024 * 1024},
		{smithyWith("1 1024:1", nil, smith(impl.SmWorks, 0, 0, 1023)), []int64{1023}, []int64{0}, 0},
		{smithyWith("1 1024:1", nil, smith(impl.SmWorks, 0, 0, 1024)), []int64{1024}, []int64{1}, 1},
		{smithyWith("1 7:5", nil, smith(impl.SmAway, 0, 0, 1024), gone()), []int64{0}, []int64{0}, 0},
	}
	for i, k := range cases {
		for room := range k.needs {
			if need, coal := impl.NeedIn(k.m, int64(room)), impl.CoalIn(k.m, int64(room)); need != k.needs[room] || coal != k.coal[room] {
				t.Errorf("case %d: room %d needs %d and costs %d", i, room, need, coal)
			}
		}
		past := int64(len(k.needs))
		if impl.NeedIn(k.m, past) != -1 || impl.CoalIn(k.m, past) != -1 || impl.NeedIn(k.m, -1) != -1 || impl.CoalIn(k.m, -1) != -1 {
			t.Errorf("case %d: there is a room %d or -1", i, past)
		}
		if coal := impl.CoalOf(k.m); coal != k.all {
			t.Errorf("case %d: CoalOf is %d, not %d", i, coal, k.all)
		}
		checkCoalOfRight(t, fmt.Sprint("case ", i), k.m)
	}
}

// What who wants is at that bench and at no other one; all others are where they were.
func TestCoalWithCases(t *testing.T) {
	cases := []struct {
		m    impl.Smithy
		who  int64
		want []int64
	}{
		{dearSmithy(), 0, []int64{262, 262, 226, -1}},
		{dearSmithy(), 1, []int64{262, 262, 153, -1}},
		{dearSmithy(), 2, []int64{262, 262, 244, -1}},
		{dearSmithy(), 3, []int64{487, 487, 379, -1}},
		{dearSmithy(), 4, []int64{-1, -1, -1, -1}},
		{dearSmithy(), 5, []int64{-1, -1, -1, -1}},
		{dearSmithy(), -1, []int64{-1, -1, -1, -1}},
		{fullSmithy(), 0, []int64{37, 37, 37, -1, 50, -1, 50, 37, -1}},
		{fullSmithy(), 1, []int64{37, 37, 37, -1, 38, -1, 38, 37, -1}},
		{fullSmithy(), 2, []int64{-1, -1, -1, -1, -1, -1, -1, -1, -1}},
		{fullSmithy(), 3, []int64{37, 37, 37, -1, 37, -1, 37, 37, -1}},
		{fullSmithy(), 6, []int64{19, 19, 19, -1, 37, -1, 37, 20, -1}},
		{fullSmithy(), 7, []int64{37, 37, 37, -1, 40, -1, 40, 38, -1}},
		{fullSmithy(), 12, []int64{-1, -1, -1, -1, -1, -1, -1, -1, -1}},
		{middleSmithy(), 3, []int64{-1, -1, -1, -1}},
		{emptySmithy("1 1:1"), 0, []int64{-1, -1}},
		{smithyWith("1 1:1024", nil, smith(impl.SmAway, 0, 0, 1024)), 0, []int64{1024 * 1024, -1}},
	}
	for i, k := range cases {
		for bench, want := range k.want {
			if got := impl.CoalWith(k.m, k.who, int64(bench)); got != want {
				t.Errorf("case %d: CoalWith %d at %d = %d, not %d", i, k.who, bench, got, want)
			}
		}
		if got := impl.CoalWith(k.m, k.who, -1); got != -1 {
			t.Errorf("case %d: CoalWith %d at -1 = %d", i, k.who, got)
		}
	}
}

func TestCoalIsWhatTheRoomsCost(t *testing.T) {
	for i, m := range rightSmithies() {
		checkCoalOfRight(t, fmt.Sprint("nothing wrong, smithy ", i), m)
	}
	for _, h := range rightHalls(t) {
		m, _ := impl.NewSmithy(h)
		checkCoalOfRight(t, "nothing but a hall", m)
		if impl.CoalOf(m) != 0 {
			t.Fatalf("CoalOf(%+v) = %d", m, impl.CoalOf(m))
		}
	}
}

// Every hall from one bench to eight, with none to twelve smiths of all states, ranks, guilds, bounds and Utils.
func TestManySmithiesCost(t *testing.T) {
	l, costly, cheaper, dearer := lots(13), 0, 0, 0
	for _, h := range rightHalls(t) {
		for count := range mostSmiths + 1 {
			m := withTurns(&l, drawnSmithy(&l, h, count))
			checkCoalOfRight(t, "what was drawn", m)
			coal := impl.CoalOf(m)
			if coal > 0 {
				costly++
			}
			for who := range m.Smiths {
				for bench := range m.Desks {
					switch with := impl.CoalWith(m, int64(who), int64(bench)); {
					case with > coal:
						dearer++
					case 0 <= with && with < coal:
						cheaper++
					}
				}
			}
		}
	}
	if costly < 500 || cheaper < 2000 || dearer < 2000 {
		t.Fatalf("%d cost something, and who was elsewhere was %d times cheaper and %d times dearer", costly, cheaper, dearer)
	}
}

// Whose turn it is, what each one had, which Pace a room has and what the time is are of no matter to the costs.
func TestWhatIsOfNoMatterToTheCosts(t *testing.T) {
	l := lots(1313)
	list := append(rightSmithies(), dearSmithy())
	for range 100 {
		list = append(list, withTurns(&l, drawnSmithy(&l, mustHall(oneOf(&l, benchHall, dearHall, eightHall)), 12)))
	}
	for _, m := range list {
		others := []impl.Smithy{impl.Turned(m)}
		for room, r := range m.Hall.Rooms {
			for pace := range r.Paces {
				x := lendSmithy(m)
				x.Paces[room], x.Now = int64(pace), mostNow-m.Now
				others = append(others, x)
			}
		}
		x := lendSmithy(m)
		for who, s := range x.Smiths {
			if s.State >= impl.SmWaits {
				x.Smiths[who].Had, x.Smiths[who].Work = x.Desks[s.Bench].Mark+int64(who), mostWork
			}
		}
		for _, other := range append(others, x) {
			checkSameCosts(t, m, other)
		}
	}
}

func checkSameCosts(t *testing.T, a, b impl.Smithy) {
	t.Helper()
	if !impl.SmithyOk(b) || impl.CoalOf(a) != impl.CoalOf(b) {
		t.Fatalf("CoalOf(%+v) = %d, and of %+v it is %d", a, impl.CoalOf(a), b, impl.CoalOf(b))
	}
	for _, room := range upTo(len(a.Hall.Rooms)) {
		if impl.NeedIn(a, room) != impl.NeedIn(b, room) || impl.CoalIn(a, room) != impl.CoalIn(b, room) {
			t.Fatalf("room %d of %+v and of %+v", room, a, b)
		}
	}
	for _, who := range upTo(len(a.Smiths)) {
		for _, bench := range upTo(len(a.Desks)) {
			if impl.CoalWith(a, who, bench) != impl.CoalWith(b, who, bench) {
				t.Fatalf("%d at %d of %+v and of %+v", who, bench, a, b)
			}
		}
	}
}

// Every choice of benches that are Open, with one at each of these, at every other one of these, and at none.
func TestRoomsOfWhichSomeBenchesAreClosed(t *testing.T) {
	for _, text := range []string{"1 1:1", "4 300:2", dearHall, eightHall, "1 10:3/1 20:9/1 30:27"} {
		benches := len(emptySmithy(text).Desks)
		for set := 1; set < 1<<benches; set++ {
			for every := range 3 {
				m := emptySmithy(text)
				for bench := range m.Desks {
					m.Desks[bench].Open = set>>bench&1 == 1
					if m.Desks[bench].Open && every > 0 && bench%every == 0 {
						m.Desks[bench].Who = int64(len(m.Smiths))
						m.Smiths = append(m.Smiths, smith(impl.SmWorks, int64(bench), 0, 100+130*int64(bench)))
					}
				}
				m.Smiths = append(m.Smiths, smith(impl.SmAway, int64(benches)-1, 0, 333))
				checkCoalAnswers(t, m, upTo(len(m.Hall.Rooms)), upTo(len(m.Smiths)), upTo(benches))
				checkCostOfRooms(t, m)
				for room := range m.Hall.Rooms {
					closed := impl.BenchSet(m.Hall, int64(room))&int64(set) == 0
					if (closed || every == 0) && (impl.NeedIn(m, int64(room)) != 0 || impl.CoalIn(m, int64(room)) != 0) {
						t.Fatalf("room %d of %+v needs %d and costs %d", room, m, impl.NeedIn(m, int64(room)), impl.CoalIn(m, int64(room)))
					}
				}
			}
		}
	}
}

// roomSmithy has that room behind another one, and one that works at each of its benches and wants so much.
func roomSmithy(r impl.Room, wants ...int64) impl.Smithy {
	m, _ := impl.NewSmithy(hallWith(roomWith(2, impl.Pace{Force: 9, Coal: 1}), r))
	for i, want := range wants {
		bench := int64(2 + i)
		m.Desks[bench].Who = int64(i)
		m.Smiths = append(m.Smiths, smith(impl.SmWorks, bench, 0, want))
	}
	return m
}

// Each bench of a room in turn needs just as much as a Pace is enough for, one less, and one more.
func TestRoomsThatNeedWhatAPaceIsEnoughFor(t *testing.T) {
	for _, r := range paceRooms() {
		for place, p := range r.Paces {
			for _, off := range []int64{-1, 0, 1} {
				need := greatestNeed(p) + off
				if !isFrom(need, 0, 1024) {
					continue
				}
				for bench := range r.Benches {
					wants := slices.Repeat([]int64{need / 2}, int(r.Benches))
					wants[bench] = need
					m := roomSmithy(r, wants...)
					work := need + (r.Benches-1)*(need/2)
					pace := wantPaceFor(r, need)
					if off <= 0 && pace > int64(place) || off > 0 && pace <= int64(place) && place < len(r.Paces)-1 {
						t.Fatalf("%d is not what %+v is enough for", need, p)
					}
					if impl.NeedIn(m, 1) != need || impl.CoalIn(m, 1) != impl.CoalFor(r, pace, work) || impl.NeedIn(m, 0) != 0 || impl.CoalOf(m) != impl.CoalIn(m, 1) {
						t.Fatalf("%+v needs %d and costs %d, with %d", r, impl.NeedIn(m, 1), impl.CoalIn(m, 1), wants)
					}
					checkCoalAnswers(t, m, upTo(2), upTo(len(m.Smiths)), upTo(len(m.Desks)))
				}
			}
		}
	}
}

// One is added to what is used at one bench, and the room has another Pace.
func TestOneMoreThanAPaceIsEnoughFor(t *testing.T) {
	cases := []struct {
		wants []int64
		coal  int64
	}{
		{[]int64{160, 160}, 160}, {[]int64{161, 160}, 240}, {[]int64{160, 161}, 240}, {[]int64{161, 0}, 120}, {[]int64{160, 0}, 80},
		{[]int64{0, 160}, 80}, {[]int64{0, 161}, 120}, {[]int64{320, 320}, 480}, {[]int64{321, 320}, 480}, {[]int64{1024, 1024}, 1536},
		{[]int64{0, 0}, 0}, {[]int64{1, 0}, 0}, {[]int64{1, 1}, 1},
	}
	r := roomWith(2, impl.Pace{Force: 200, Coal: 100}, impl.Pace{Force: 400, Coal: 300})
	for _, k := range cases {
		if got := impl.CoalIn(roomSmithy(r, k.wants...), 1); got != k.coal {
			t.Errorf("CoalIn with %v = %d, not %d", k.wants, got, k.coal)
		}
	}
}

// Twelve that want all, at one bench and spread over all of them.
func TestTheMostThatCanBeUsed(t *testing.T) {
	for _, text := range []string{"1 1:1024", "1 1024:1", "4 1:1 1024:1024", dearHall, eightHall} {
		benches := len(emptySmithy(text).Desks)
		for spread := 1; spread <= benches; spread++ {
			smiths := []impl.Smith{}
			for who := range mostSmiths {
				s := smith(impl.SmWaits, int64(who%spread), 0, 1024)
				if who < spread {
					s.State = impl.SmWorks
				}
				smiths = append(smiths, s)
			}
			m := smithyWith(text, nil, smiths...)
			checkCoalOfRight(t, "twelve that want all", m)
			if spread == 1 && impl.NeedIn(m, 0) != mostSmiths*1024 {
				t.Fatalf("NeedIn(%+v, 0) = %d", m, impl.NeedIn(m, 0))
			}
		}
	}
	m := smithyWith("1 1:1024", nil, slices.Repeat([]impl.Smith{smith(impl.SmWaits, 0, 0, 1024)}, mostSmiths)...)
	if got := impl.CoalOf(impl.Turned(m)); got != mostSmiths*1024*1024 {
		t.Fatalf("twelve that want all cost %d", got)
	}
}

// One in each state and at each bench, beside others, asked for each bench: where it is, in the same room, in another.
func TestWhereverOneIs(t *testing.T) {
	for _, text := range []string{"1 30:7 60:21", dearHall, eightHall} {
		benches := int64(len(emptySmithy(text).Desks))
		for state := int64(impl.SmAway); state <= impl.SmWorks; state++ {
			for bench := range benches {
				for _, util := range []int64{0, 1, 80, 161, 1024} {
					others := impl.SmWorks
					if state == impl.SmWorks {
						others = impl.SmWaits
					}
					smiths := []impl.Smith{smith(state, bench, 0, util)}
					for b := range benches {
						smiths = append(smiths, smith(impl.SmWorks, b, 0, 40*b+7))
					}
					smiths[1+bench].State = int64(others)
					m := smithyWith(text, someGuilds(), smiths...)
					checkCoalOfRight(t, fmt.Sprint("one in state ", state, " at ", bench), m)
					if util == 0 {
						checkWantsNothing(t, m)
					}
				}
			}
		}
	}
}

// checkWantsNothing asks that the first one, who wants nothing, costs nothing wherever it is.
func checkWantsNothing(t *testing.T, m impl.Smithy) {
	t.Helper()
	for bench := range m.Desks {
		if with := impl.CoalWith(m, 0, int64(bench)); with != impl.CoalOf(m) {
			t.Fatalf("CoalWith(%+v, 0, %d) = %d, and it is %d without", m, bench, with, impl.CoalOf(m))
		}
	}
}

// The chapter asks for no more than that there is such a bench and it is Open: neither for May, nor for the band.
func TestWhoMayNotWorkThere(t *testing.T) {
	for may := int64(1); may <= 255; may++ {
		for who := range int64(4) {
			m := dearSmithy()
			m.Smiths[who].May = may | 1<<m.Smiths[who].Bench
			if m.Smiths[who].State == impl.SmAway {
				m.Smiths[who].May = may
			}
			for bench := range int64(3) {
				if got, want := impl.CoalWith(m, who, bench), impl.CoalWith(dearSmithy(), who, bench); got != want || got < 0 {
					t.Fatalf("CoalWith(%+v, %d, %d) = %d, not %d", m, who, bench, got, want)
				}
			}
		}
	}
	for _, mark := range []int64{-mostMark, -credit - 1, lead + 1, mostMark} {
		for _, had := range []int64{leastHad, -mostMark, 0, mostMark, mostHad} {
			m := dearSmithy()
			m.Smiths[3].Had, m.Desks[2].Mark = had, mark
			checkSameCosts(t, dearSmithy(), m)
		}
	}
}

// Who is away is at no bench, whichever it was at last, closed or open; it costs nothing until it is somewhere.
func TestWhoIsAwayIsNowhere(t *testing.T) {
	for bench := range int64(3) {
		m := dearSmithy()
		m.Smiths[3].Bench = bench
		checkSameCosts(t, dearSmithy(), m)
		x := dearSmithy()
		x.Smiths[3] = gone()
		if impl.CoalOf(x) != impl.CoalOf(m) {
			t.Fatalf("who is away at %d costs something: %d, not %d", bench, impl.CoalOf(m), impl.CoalOf(x))
		}
		m.Desks[2].Open = false
		checkCoalOfRight(t, "a room that is closed", m)
		if impl.CoalWith(m, 3, 2) != -1 || impl.CoalWith(m, 3, 0) != 487 {
			t.Fatalf("CoalWith(%+v, 3, 2 and 0) = %d, %d", m, impl.CoalWith(m, 3, 2), impl.CoalWith(m, 3, 0))
		}
	}
}

// What one wants is bounded by its own Low and High and by its guilds, where it is and where it would be.
func TestCoalOfBoundedWants(t *testing.T) {
	for g := int64(-1); g < 6; g++ {
		for _, b := range [][2]int64{{0, 1024}, {0, 0}, {1024, 1024}, {99, 501}, {300, 300}, {701, 900}} {
			for util := int64(0); util <= 1024; util += 128 {
				m := dearSmithy()
				m.Guilds = someGuilds()
				for _, who := range []int{1, 2, 3} {
					m.Smiths[who].Guild, m.Smiths[who].Low, m.Smiths[who].High, m.Smiths[who].Util = g, b[0], b[1], util
				}
				checkCoalOfRight(t, fmt.Sprint("guild ", g, " and bounds ", b), m)
			}
		}
	}
}

func TestRoomsWhosAndBenchesOutOfRange(t *testing.T) {
	for _, m := range append(rightSmithies(), dearSmithy()) {
		rooms, whos, benches := int64(len(m.Hall.Rooms)), int64(len(m.Smiths)), int64(len(m.Desks))
		for _, room := range slices.Concat(noRooms, []int64{rooms, rooms + 1}) {
			if need, coal := impl.NeedIn(m, room), impl.CoalIn(m, room); need != -1 || coal != -1 {
				t.Fatalf("room %d of %+v needs %d and costs %d", room, m, need, coal)
			}
		}
		for _, room := range []int64{0, rooms - 1} {
			if impl.NeedIn(m, room) < 0 || impl.CoalIn(m, room) < 0 {
				t.Fatalf("room %d of %+v needs %d and costs %d", room, m, impl.NeedIn(m, room), impl.CoalIn(m, room))
			}
		}
		noWho, noBench := slices.Concat(wrongPlaces, []int64{whos, whos + 1}), slices.Concat(wrongPlaces, []int64{benches, benches + 1, 8, 9})
		for _, who := range noWho {
			for _, bench := range slices.Concat(noBench, upTo(int(benches))) {
				if got := impl.CoalWith(m, who, bench); got != -1 {
					t.Fatalf("CoalWith(%+v, %d, %d) = %d", m, who, bench, got)
				}
			}
		}
		for who := range m.Smiths {
			for _, bench := range noBench {
				if got := impl.CoalWith(m, int64(who), bench); got != -1 {
					t.Fatalf("CoalWith(%+v, %d, %d) = %d", m, who, bench, got)
				}
			}
		}
	}
}

// Each part that chapter 11 names, wrong one at a time, and all that may be wrong in whose turn it is.
func TestWhatIsWrongHasNoCoal(t *testing.T) {
	for what, m := range wrongSmithies {
		checkNoCoal(t, what, m)
	}
}

// The least and the greatest int64, and others that are right nowhere, in each number of each part and in all of them.
func TestCoalOfWrongNumbersInEveryPart(t *testing.T) {
	for what, m := range wrongNumbersInEveryPart {
		checkNoCoal(t, what, m)
		for _, x := range []int64{math.MinInt64, math.MaxInt64} {
			if impl.NeedIn(m, x) != -1 || impl.CoalIn(m, x) != -1 || impl.CoalWith(m, x, x) != -1 || impl.CoalWith(m, x, 0) != -1 || impl.CoalWith(m, 0, x) != -1 {
				t.Fatalf("of %d with %s there is coal", x, what)
			}
		}
	}
}

// Each number of a right smithy a little off, and at many others that may be right or wrong there, held against a
// reckoning.
func TestCoalOfEveryNumberALittleOff(t *testing.T) {
	others := []int64{-mostMark - 1, -6, -1, 0, 1, 2, 3, 4, 7, 8, 100, 255, 256, 500, 1000, 1024, 1025, mostNow + 1, mostMark + 1}
	for _, right := range []impl.Smithy{middleSmithy(), fullSmithy(), dearSmithy()} {
		for i, number := range numbersOf(&right) {
			tries := slices.Clone(others)
			for off := int64(-2); off <= 2; off++ {
				tries = append(tries, *number.at+off)
			}
			for _, n := range tries {
				m := lendSmithy(right)
				*numbersOf(&m)[i].at = n
				checkCoalAnswers(t, m, upTo(3), []int64{0, 2, 3}, upTo(3))
			}
		}
	}
}

// Limits that are met exactly are accepted.
func TestCoalOfWhatMeetsItsLimits(t *testing.T) {
	for i, change := range []func(m *impl.Smithy){
		func(m *impl.Smithy) { m.Now = 0 },
		func(m *impl.Smithy) { m.Now = mostNow },
		func(m *impl.Smithy) { m.Smiths = append(m.Smiths, make([]impl.Smith, 7)...) },
		func(m *impl.Smithy) { m.Guilds = slices.Repeat(m.Guilds, 6) },
		func(m *impl.Smithy) { m.Paces = []int64{1, 1} },
		func(m *impl.Smithy) { m.Desks[1].Mark = mostMark },
		func(m *impl.Smithy) { m.Desks[1].Mark = -mostMark },
		func(m *impl.Smithy) { m.Smiths[1].Work, m.Smiths[1].Util, m.Smiths[1].Carry = mostWork, 1024, 1279 },
		func(m *impl.Smithy) { m.Smiths[0].Had = 200 + lead },
		func(m *impl.Smithy) { m.Smiths[0].Had = 200 - credit },
		func(m *impl.Smithy) { m.Smiths[2].Had, m.Smiths[2].Bench = leastHad, 1 },
		func(m *impl.Smithy) { m.Smiths[2].Had = mostHad },
		func(m *impl.Smithy) {
			m.Hall.Rooms[0].Paces[1], m.Hall.Rooms[1].Paces[1] = impl.Pace{Force: 1024, Coal: 1024}, impl.Pace{Force: 1024, Coal: 1024}
		},
		func(m *impl.Smithy) { m.Hall.Rooms[0].Paces[0] = impl.Pace{Force: 1, Coal: 1} },
	} {
		m := lendSmithy(middleSmithy())
		change(&m)
		checkCoalOfRight(t, fmt.Sprint("limit ", i), m)
	}
}

func TestCoalOfEmptyAndNilLists(t *testing.T) {
	for what, m := range withListsDropped {
		checkNoCoal(t, what, m)
	}
	for _, text := range []string{"1 1:1", benchHall, eightHall} {
		m := emptySmithy(text)
		checkCoalOfRight(t, "empty guilds and smiths", m)
		m.Guilds, m.Smiths = nil, nil
		checkCoalOfRight(t, "no guilds and no smiths", m)
		if impl.CoalOf(m) != 0 || impl.CoalWith(m, 0, 0) != -1 {
			t.Fatalf("%s costs %d, and %d with one there is not", text, impl.CoalOf(m), impl.CoalWith(m, 0, 0))
		}
	}
}

// Every smithy of two benches, in one room and in two, and of two smiths in all states, held against a reckoning.
func TestCoalOfSmallSmithies(t *testing.T) {
	kinds := []impl.Smith{gone()}
	for state := int64(impl.SmAway); state <= impl.SmWorks; state++ {
		for bench := range int64(2) {
			for _, util := range []int64{0, 40, 41} {
				kinds = append(kinds, smith(state, bench, 0, util))
			}
		}
	}
	desks := []impl.Desk{}
	for who := int64(-1); who <= 2; who++ {
		desks = append(desks, impl.Desk{Open: true, Who: who}, impl.Desk{Who: who})
	}
	for _, text := range []string{"1 50:30 60:70/1 90:50 100:80", "2 50:30 60:70"} {
		right := 0
		m := emptySmithy(text)
		m.Smiths = make([]impl.Smith, 2)
		for _, m.Smiths[0] = range kinds {
			for _, m.Smiths[1] = range kinds {
				for _, m.Desks[0] = range desks {
					for _, m.Desks[1] = range desks {
						checkCoalAnswers(t, m, upTo(2), upTo(2), upTo(2))
						if impl.SmithyOk(m) {
							right++
							checkPromise13(t, m)
						}
					}
				}
			}
		}
		if right < 300 {
			t.Fatalf("only %d of them are right", right)
		}
	}
}
