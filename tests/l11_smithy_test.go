package tests

import (
	"fmt"
	"math"
	"reflect"
	"slices"
	"testing"

	"loop.example/g00553/impl"
)

const (
	mostSmiths = 12
	mostNow    = million
)

// eightHall has rooms of four, three and one bench, and of one, four and two Paces.
const eightHall = "4 300:2/3 100:1 200:3 400:9 800:27/1 512:2 1024:8"

// wrongPlaces holds what is no place of a smith or of a bench; what looks like one in its lowest bits alone is among it.
var wrongPlaces = []int64{
	math.MinInt64, math.MinInt64 + 1, math.MinInt64 + 2, -1 << 62, -1 << 32, -1<<32 + 1, -256, -255, -13, -12, -8, -3, -2, -1,
	12, 13, 14, 100, 256, 257, 1 << 32, 1<<32 + 1, 1 << 62, math.MaxInt64 - 1, math.MaxInt64,
}

func gone() impl.Smith { return impl.Smith{} }

// smith is one that may work anywhere, has no guild and no bounds of its own.
func smith(state, bench, had, util int64) impl.Smith {
	return impl.Smith{State: state, Bench: bench, May: 255, Guild: -1, High: mostBound, Had: had, Util: util}
}

func mustHall(text string) impl.Hall {
	h, ok := impl.ReadHall(text)
	if !ok {
		panic(text)
	}
	return h
}

// emptySmithy is written out by the words of the chapter, so that it does not hang on NewSmithy.
func emptySmithy(text string) impl.Smithy {
	m := impl.Smithy{Hall: mustHall(text), Guilds: []impl.Guild{}, Smiths: []impl.Smith{}}
	for _, r := range m.Hall.Rooms {
		m.Paces = append(m.Paces, 0)
		for range r.Benches {
			m.Desks = append(m.Desks, impl.Desk{Open: true, Who: -1})
		}
	}
	return m
}

// smithyWith lays down each smith that works as the Who of its bench.
func smithyWith(text string, guilds []impl.Guild, smiths ...impl.Smith) impl.Smithy {
	m := emptySmithy(text)
	m.Guilds, m.Smiths = slices.Clone(guilds), slices.Clone(smiths)
	for who, s := range smiths {
		if s.State == impl.SmWorks {
			m.Desks[s.Bench].Who = int64(who)
		}
	}
	return m
}

func someGuilds() []impl.Guild {
	return []impl.Guild{guild(-1, 100, 500), guild(0, 50, 300), guild(-1, 0, 1024), guild(2, 600, 800), guild(3, 0, 700), guild(-1, 0, 0)}
}

// fullSmithy has all kinds of smiths, benches that are closed or idle, and nearly no two numbers alike.
func fullSmithy() impl.Smithy {
	m := smithyWith(eightHall, someGuilds(),
		impl.Smith{State: impl.SmWorks, Bench: 0, Rank: -5, May: 255, Guild: 0, Low: 0, High: 1024, Had: 1007, Carry: 3124, Util: 700, Work: 9001},
		impl.Smith{State: impl.SmWaits, Bench: 0, Rank: 5, May: 1, Guild: -1, Low: 20, High: 900, Had: 1003, Carry: 334, Util: 10, Work: 9002},
		gone(),
		impl.Smith{State: impl.SmAway, Bench: 7, Rank: 1, May: 2, Guild: 5, Low: 7, High: 8, Had: mostHad, Carry: 1, Util: 1024, Work: 9003},
		impl.Smith{State: impl.SmWaits, Bench: 0, Rank: 0, May: 3, Guild: 1, Low: 30, High: 200, Had: 1003, Carry: 2, Util: 150, Work: 9004},
		impl.Smith{State: impl.SmWorks, Bench: 7, Rank: 2, May: 128, Guild: 3, Low: 0, High: 10, Had: -900000, Carry: 3, Util: 333, Work: 9005},
		impl.Smith{State: impl.SmWorks, Bench: 4, Rank: -1, May: 31, Guild: 4, Low: 650, High: 1000, Had: 50, Carry: 4, Util: 660, Work: 9006},
		impl.Smith{State: impl.SmAway, Bench: 3, Rank: 3, May: 64, Guild: -1, Low: 0, High: 1024, Had: leastHad, Carry: 5, Util: 77, Work: mostWork},
		impl.Smith{State: impl.SmWaits, Bench: 4, Rank: 4, May: 16, Guild: 2, Low: 5, High: 6, Had: -100, Carry: 6, Util: 0, Work: 0},
		gone(),
		impl.Smith{State: impl.SmWaits, Bench: 7, Rank: -2, May: 192, Guild: -1, Low: 512, High: 512, Had: -899000, Carry: 8, Util: 600, Work: 9007},
		impl.Smith{State: impl.SmWaits, Bench: 0, Rank: -3, May: 7, Guild: -1, Low: 0, High: 1024, Had: 999, Carry: 9, Util: 404, Work: 9008},
	)
	m.Desks[0].Mark, m.Desks[1].Mark, m.Desks[2].Mark, m.Desks[7].Mark = 1000, mostMark, -mostMark, -900000
	m.Desks[3].Open, m.Desks[5].Open = false, false
	m.Paces, m.Now = []int64{0, 3, 1}, 4321
	return m
}

// middleSmithy has three benches in two rooms, and five smiths of all states.
func middleSmithy() impl.Smithy {
	m := smithyWith(benchHall, []impl.Guild{guild(-1, 0, 500)},
		impl.Smith{State: impl.SmWorks, Bench: 0, Rank: 1, May: 7, Guild: 0, Low: 3, High: 1024, Had: 205, Carry: 11, Util: 700, Work: 55},
		impl.Smith{State: impl.SmWaits, Bench: 0, Rank: -1, May: 5, Guild: -1, Low: 4, High: 1000, Had: 203, Carry: 12, Util: 100, Work: 56},
		impl.Smith{State: impl.SmAway, Bench: 2, Rank: 2, May: 2, Guild: 0, Low: 5, High: 900, Had: -7, Carry: 13, Util: 9, Work: 57},
		gone(),
		impl.Smith{State: impl.SmWorks, Bench: 2, Rank: 3, May: 4, Guild: -1, Low: 6, High: 800, Had: 31, Carry: 14, Util: 801, Work: 58},
	)
	m.Desks[0].Mark, m.Desks[1].Open, m.Desks[2].Mark, m.Paces[1], m.Now = 200, false, 30, 1, 17
	return m
}

// rightSmithies holds new ones and ones at work, with few smiths and with many.
func rightSmithies() []impl.Smithy {
	list := []impl.Smithy{middleSmithy(), fullSmithy()}
	for _, text := range []string{"1 1:1", "4 1024:1024", "2 5:6 7:8/2 9:10", benchHall, eightHall, "1 1:1/1 2:2/1 3:3", "4 1:1/4 1:1"} {
		list = append(list, emptySmithy(text))
	}
	crowd := []impl.Smith{smith(impl.SmWorks, 0, 0, 1024)}
	for who := int64(1); who < mostSmiths; who++ {
		crowd = append(crowd, smith(impl.SmWaits, 0, who*7919%30-20, 1024-who))
	}
	return append(list,
		smithyWith("1 1:1", nil, crowd...),
		smithyWith("1 1:1", nil, gone()),
		smithyWith(benchHall, nil, gone(), gone(), smith(impl.SmWorks, 1, 5, 9)),
		smithyWith(benchHall, nil, smith(impl.SmAway, 0, 5, 9), smith(impl.SmAway, 2, mostHad, 9)),
		smithyWith(eightHall, someGuilds(), slices.Repeat([]impl.Smith{gone()}, mostSmiths)...),
		smithyWith(eightHall, nil, slices.Repeat([]impl.Smith{smith(impl.SmAway, 7, leastHad, 1024)}, mostSmiths)...),
	)
}

// room makes a copy of a list with more behind it, which would be right if the list were longer.
func room[T any](l []T, behind ...T) []T { return slices.Concat(l, behind)[:len(l)] }

// lendSmithy is a copy of all of it, with spare room behind each list.
func lendSmithy(m impl.Smithy) impl.Smithy {
	h := impl.Hall{}
	for _, r := range m.Hall.Rooms {
		h.Rooms = append(h.Rooms, impl.Room{Benches: r.Benches, Paces: room(r.Paces, impl.Pace{Force: 1023, Coal: 1023}, impl.Pace{Force: 1024, Coal: 1024})})
	}
	h.Rooms = room(h.Rooms, roomWith(1, impl.Pace{Force: 1, Coal: 1}), roomWith(-7))
	return impl.Smithy{
		Hall:   h,
		Guilds: room(m.Guilds, guild(-1, 1, 2), guild(-7, -7, -7)),
		Smiths: room(m.Smiths, smith(impl.SmAway, 0, 0, 5), smith(impl.SmWaits, 0, -3, 6)),
		Desks:  room(m.Desks, impl.Desk{Open: true, Who: -1}, impl.Desk{Open: true, Who: -7, Mark: -7}),
		Paces:  room(m.Paces, 0, -7),
		Now:    m.Now,
	}
}

// toTheBrim is a copy of all of it and of all the spare room.
func toTheBrim(m impl.Smithy) impl.Smithy {
	c := impl.Smithy{
		Guilds: slices.Clone(m.Guilds[:cap(m.Guilds)]), Smiths: slices.Clone(m.Smiths[:cap(m.Smiths)]), Desks: slices.Clone(m.Desks[:cap(m.Desks)]),
		Paces: slices.Clone(m.Paces[:cap(m.Paces)]), Now: m.Now,
	}
	for _, r := range m.Hall.Rooms[:cap(m.Hall.Rooms)] {
		c.Hall.Rooms = append(c.Hall.Rooms, roomWith(r.Benches, slices.Clone(r.Paces[:cap(r.Paces)])...))
	}
	return c
}

// sameSmithy asks field by field, nil and an empty list alike.
func sameSmithy(a, b impl.Smithy) bool {
	return sameHall(a.Hall, b.Hall) && slices.Equal(a.Guilds, b.Guilds) && slices.Equal(a.Smiths, b.Smiths) &&
		slices.Equal(a.Desks, b.Desks) && slices.Equal(a.Paces, b.Paces) && a.Now == b.Now
}

// span is where a list lies, its spare room with it.
type span struct{ from, to uintptr }

func spansOf(v reflect.Value) []span {
	list := []span{}
	switch v.Kind() {
	case reflect.Struct:
		for i := range v.NumField() {
			list = append(list, spansOf(v.Field(i))...)
		}
	case reflect.Slice:
		size := uintptr(v.Cap()) * v.Type().Elem().Size()
		if size > 0 {
			list = append(list, span{v.Pointer(), v.Pointer() + size})
		}
		for i := range v.Len() {
			list = append(list, spansOf(v.Index(i))...)
		}
	}
	return list
}

// checkNoneShared asks that no two lists in all of these lie over each other.
func checkNoneShared(t *testing.T, values ...any) {
	t.Helper()
	all := []span{}
	for _, v := range values {
		all = append(all, spansOf(reflect.ValueOf(v))...)
	}
	for i, a := range all {
		for _, b := range all[:i] {
			if a.from < b.to && b.from < a.to {
				t.Fatalf("two lists share their memory in %+v", values)
			}
		}
	}
}

// wantInPlace asks of one smith what hangs on the rest of the smithy; desks and guilds are right ahead of it.
func wantInPlace(m impl.Smithy, s impl.Smith) bool {
	if !wantSmithOk(s) || s.State != 0 && s.Guild >= int64(len(m.Guilds)) {
		return false
	}
	switch s.State {
	case 0:
		return true
	case 1:
		return s.Bench < int64(len(m.Desks))
	}
	for bench, d := range m.Desks {
		if s.Bench == int64(bench) {
			return d.Open && slices.Contains(wantMembers(s.May), s.Bench) && wantInBand(s.Had, d.Mark)
		}
	}
	return false
}

// wantTurns counts who works and who waits at each bench, and takes the Who by what they are.
func wantTurns(m impl.Smithy) bool {
	working, waiting := map[int64][]int64{}, map[int64]int{}
	for who, s := range m.Smiths {
		switch s.State {
		case 2:
			waiting[s.Bench]++
		case 3:
			working[s.Bench] = append(working[s.Bench], int64(who))
		}
	}
	for bench, d := range m.Desks {
		all := append(working[int64(bench)], -1)
		if len(all) > 2 || d.Who != all[0] || len(all) == 1 && waiting[int64(bench)] > 0 {
			return false
		}
	}
	return true
}

func wantSmithyOk(m impl.Smithy) bool { return wantAllInPlace(m) && wantTurns(m) }

// wantAllInPlace asks all of a smithy but whose turn it is.
func wantAllInPlace(m impl.Smithy) bool {
	rooms := wantRooms(m.Hall)
	if len(rooms) == 0 || !wantGuildsOk(m.Guilds) || len(m.Smiths) > mostSmiths || len(m.Desks) != len(rooms) || len(m.Paces) != len(m.Hall.Rooms) || !isFrom(m.Now, 0, mostNow) {
		return false
	}
	for i, pace := range m.Paces {
		if !isFrom(pace, 0, int64(len(m.Hall.Rooms[i].Paces))-1) {
			return false
		}
	}
	open := 0
	for _, d := range m.Desks {
		if d.Open {
			open++
		}
		if !isFrom(d.Mark, -mostMark, mostMark) {
			return false
		}
	}
	for _, s := range m.Smiths {
		if !wantInPlace(m, s) {
			return false
		}
	}
	return open > 0
}

// wantAt sorts, where the program queues one after the other.
func wantAt(m impl.Smithy, bench int64) []impl.Entry {
	if !wantSmithyOk(m) {
		return nil
	}
	list := []impl.Entry{}
	for who, s := range m.Smiths {
		if s.State >= 2 && s.Bench == bench {
			list = append(list, entry(s.Had, int64(who)))
		}
	}
	slices.SortFunc(list, func(a, b impl.Entry) int {
		if a.Had != b.Had {
			return int(a.Had - b.Had)
		}
		return int(a.Who - b.Who)
	})
	return list
}

func wantWantOf(m impl.Smithy, who int64) int64 {
	if !wantSmithyOk(m) || !isFrom(who, 0, int64(len(m.Smiths))-1) || m.Smiths[who].State == 0 {
		return -1
	}
	return wantWant(m, m.Smiths[who])
}

// wantWant is what one wants wherever it is, be the smithy right or on the way to that.
func wantWant(m impl.Smithy, s impl.Smith) int64 {
	low, high := wantWithin(m.Guilds, s.Guild, s.Low, s.High)
	between := []int64{low, s.Util, high}
	slices.Sort(between)
	return between[1]
}

// wantUsedAt goes through the smiths, and asks for no queue.
func wantUsedAt(m impl.Smithy, bench int64) int64 {
	if !wantSmithyOk(m) || !isFrom(bench, 0, int64(len(m.Desks))-1) {
		return -1
	}
	used := int64(0)
	for who, s := range m.Smiths {
		if s.State >= 2 && s.Bench == bench {
			used += wantWantOf(m, int64(who))
		}
	}
	return used
}

func checkSmithyOk(t *testing.T, m impl.Smithy) {
	t.Helper()
	if got := impl.SmithyOk(m); got != wantSmithyOk(m) {
		t.Fatalf("SmithyOk(%+v) = %v", m, got)
	}
}

func checkWho(t *testing.T, m impl.Smithy, who int64) {
	t.Helper()
	if got, want := impl.WantOf(m, who), wantWantOf(m, who); got != want {
		t.Fatalf("WantOf(%+v, %d) = %d, not %d", m, who, got, want)
	}
}

func checkAtBench(t *testing.T, m impl.Smithy, bench int64) {
	t.Helper()
	if got, want := impl.At(m, bench), wantAt(m, bench); !slices.Equal(got, want) {
		t.Fatalf("At(%+v, %d) = %v, not %v", m, bench, got, want)
	}
	if got, want := impl.UsedAt(m, bench), wantUsedAt(m, bench); got != want {
		t.Fatalf("UsedAt(%+v, %d) = %d, not %d", m, bench, got, want)
	}
}

// askAll asks all that the chapter tells of a smithy, right or wrong.
func askAll(t *testing.T, m impl.Smithy) {
	t.Helper()
	checkSmithyOk(t, m)
	for n := int64(-2); n <= 14; n++ {
		checkWho(t, m, n)
		checkAtBench(t, m, n)
	}
	for _, n := range wrongPlaces {
		checkWho(t, m, n)
		checkAtBench(t, m, n)
	}
}

// checkSmithy asks all of it as it is and as it is lent, and that nothing was written to.
func checkSmithy(t *testing.T, m impl.Smithy) {
	t.Helper()
	lent := lendSmithy(m)
	given, before := toTheBrim(m), toTheBrim(lent)
	askAll(t, m)
	askAll(t, lent)
	if !reflect.DeepEqual(toTheBrim(m), given) || !reflect.DeepEqual(toTheBrim(lent), before) {
		t.Fatalf("%+v became %+v", before, toTheBrim(lent))
	}
}

// checkRefused asks for the answers that the chapter names for a smithy that is not right.
func checkRefused(t *testing.T, what string, m impl.Smithy) {
	t.Helper()
	if impl.SmithyOk(m) {
		t.Fatalf("SmithyOk with %s: %+v", what, m)
	}
	for n := int64(-1); n <= mostSmiths; n++ {
		if q := impl.At(m, n); len(q) != 0 {
			t.Fatalf("At %d with %s = %v: %+v", n, what, q, m)
		}
		if want, used := impl.WantOf(m, n), impl.UsedAt(m, n); want != -1 || used != -1 {
			t.Fatalf("WantOf and UsedAt %d with %s = %d, %d: %+v", n, what, want, used, m)
		}
	}
	checkSmithy(t, m)
}

func checkRight(t *testing.T, what string, m impl.Smithy) {
	t.Helper()
	if !impl.SmithyOk(m) {
		t.Fatalf("not SmithyOk with %s: %+v", what, m)
	}
	checkSmithy(t, m)
	checkPromise11(t, m)
}

func checkEither(t *testing.T, right bool, what string, m impl.Smithy) {
	t.Helper()
	if right {
		checkRight(t, what, m)
	} else {
		checkRefused(t, what, m)
	}
}

// checkPromise11 is the promise by its words, of a smithy that is right: what is used at a bench is what all there want.
func checkPromise11(t *testing.T, m impl.Smithy) {
	t.Helper()
	there := map[int64]int{}
	for bench := range int64(len(m.Desks)) {
		q, sum := impl.At(m, bench), int64(0)
		if !impl.QueueOk(q) {
			t.Fatalf("At(%+v, %d) = %v is no queue", m, bench, q)
		}
		for _, e := range q {
			s := m.Smiths[e.Who]
			if s.Bench != bench || s.Had != e.Had || s.State != impl.SmWaits && s.State != impl.SmWorks {
				t.Fatalf("At(%+v, %d) = %v", m, bench, q)
			}
			there[e.Who]++
			sum += impl.WantOf(m, e.Who)
		}
		if used := impl.UsedAt(m, bench); used != sum {
			t.Fatalf("UsedAt(%+v, %d) = %d, and all there want %d", m, bench, used, sum)
		}
	}
	for who, s := range m.Smiths {
		if here := s.State == impl.SmWaits || s.State == impl.SmWorks; here != (there[int64(who)] == 1) || !here && there[int64(who)] > 0 {
			t.Fatalf("%d is at %d benches: %+v", who, there[int64(who)], m)
		}
		checkWantLiesWithin(t, m, int64(who))
	}
}

func checkWantLiesWithin(t *testing.T, m impl.Smithy, who int64) {
	t.Helper()
	s, want := m.Smiths[who], impl.WantOf(m, who)
	if s.State == impl.SmGone {
		if want != -1 {
			t.Fatalf("who is gone wants %d: %+v", want, m)
		}
		return
	}
	low, high := impl.Within(m.Guilds, s.Guild, s.Low, s.High)
	if want < low || want > high || low <= s.Util && s.Util <= high && want != s.Util || s.Util < low && want != low || s.Util > high && want != high {
		t.Fatalf("WantOf(%+v, %d) = %d, with %d to %d", m, who, want, low, high)
	}
}

func TestSmithyConstants(t *testing.T) {
	if impl.MaxSmiths != 12 || impl.MaxNow != 1000000 {
		t.Fatal(impl.MaxSmiths, impl.MaxNow)
	}
}

// checkNew is promise 11 of new smithies: they are right, each bench is Open, nobody is at it, and nothing is used.
func checkNew(t *testing.T, h impl.Hall) {
	t.Helper()
	m, ok := impl.NewSmithy(h)
	if !ok || !impl.SmithyOk(m) || !sameHall(m.Hall, h) || len(m.Guilds) != 0 || len(m.Smiths) != 0 || m.Now != 0 {
		t.Fatalf("NewSmithy(%+v) = %+v, %v", h, m, ok)
	}
	if int64(len(m.Desks)) != impl.BenchesIn(h) || len(m.Paces) != len(h.Rooms) || slices.ContainsFunc(m.Paces, func(p int64) bool { return p != 0 }) {
		t.Fatalf("NewSmithy(%+v) = %+v", h, m)
	}
	for bench, d := range m.Desks {
		if d != (impl.Desk{Open: true, Who: -1, Mark: 0}) || len(impl.At(m, int64(bench))) != 0 || impl.UsedAt(m, int64(bench)) != 0 {
			t.Fatalf("NewSmithy(%+v) has %+v", h, d)
		}
	}
	if impl.UsedAt(m, int64(len(m.Desks))) != -1 || impl.UsedAt(m, -1) != -1 || impl.WantOf(m, 0) != -1 {
		t.Fatalf("NewSmithy(%+v) = %+v has more than it should", h, m)
	}
	checkNoneShared(t, h, m)
}

func TestANewSmithyIsRight(t *testing.T) {
	benches := map[int]int{}
	for _, h := range allHalls() {
		if !wantHallOk(h) {
			if m, ok := impl.NewSmithy(h); ok || !sameSmithy(m, impl.Smithy{}) {
				t.Fatalf("NewSmithy(%+v) = %+v, %v", h, m, ok)
			}
			continue
		}
		checkNew(t, h)
		benches[len(wantRooms(h))]++
	}
	for n := 1; n <= 8; n++ {
		if benches[n] == 0 {
			t.Fatalf("no hall of %d benches was asked for", n)
		}
	}
	for _, text := range []string{"1 1:1", "4 1024:1024", benchHall, eightHall} {
		checkNew(t, mustHall(text))
		m, _ := impl.NewSmithy(mustHall(text))
		checkRight(t, "nothing but a hall", m)
		if !sameSmithy(m, emptySmithy(text)) {
			t.Fatalf("NewSmithy of %s = %+v", text, m)
		}
	}
}

func TestWrongHallsHaveNoSmithy(t *testing.T) {
	halls := []impl.Hall{{}, {Rooms: []impl.Room{}}, {Rooms: []impl.Room{{}}}}
	for _, r := range wrongRooms() {
		halls = append(halls, hallWith(r), hallWith(roomWith(1, impl.Pace{Force: 1, Coal: 1}), r))
	}
	one := roomWith(1, impl.Pace{Force: 1, Coal: 1})
	four := roomWith(4, impl.Pace{Force: 1, Coal: 1})
	halls = append(halls, hallWith(one, one, one, one), hallWith(four, four, one))
	for _, h := range halls {
		given := copied(h)
		m, ok := impl.NewSmithy(h)
		if ok || !sameSmithy(m, impl.Smithy{}) {
			t.Fatalf("NewSmithy(%+v) = %+v, %v", h, m, ok)
		}
		if !sameHall(h, given) {
			t.Fatalf("%+v became %+v", given, h)
		}
		wrong := emptySmithy(benchHall)
		wrong.Hall = h
		checkRefused(t, "a wrong hall", wrong)
	}
}

func TestNewSmithyIsNewMemory(t *testing.T) {
	for _, text := range []string{"1 1:1", "3 5:5 6:6 7:7 8:8", benchHall, eightHall} {
		h := mustHall(text)
		lent := lendSmithy(impl.Smithy{Hall: h})
		before := toTheBrim(lent)
		m, _ := impl.NewSmithy(lent.Hall)
		other, _ := impl.NewSmithy(lent.Hall)
		checkNoneShared(t, lent.Hall, m, other)
		for _, n := range numbersOf(&m) {
			*n.at = -77
		}
		if !reflect.DeepEqual(toTheBrim(lent), before) || !sameSmithy(other, emptySmithy(text)) {
			t.Fatalf("what was written to one smithy of %s is seen elsewhere", text)
		}
		for i := range lent.Hall.Rooms {
			for j := range lent.Hall.Rooms[i].Paces {
				lent.Hall.Rooms[i].Paces[j] = impl.Pace{Force: -78, Coal: -78}
			}
			lent.Hall.Rooms[i] = roomWith(-78)
		}
		if again, ok := impl.NewSmithy(h); !sameSmithy(other, emptySmithy(text)) || !ok || !sameSmithy(again, other) {
			t.Fatalf("what was written to the hall %s is seen in the smithy", text)
		}
	}
}

func TestAtIsNewMemory(t *testing.T) {
	for _, m := range append(rightSmithies(), impl.Smithy{}) {
		before := toTheBrim(m)
		for bench := int64(-1); bench <= 8; bench++ {
			q, again := impl.At(m, bench), impl.At(m, bench)
			checkNoneShared(t, m, q, again)
			all := q[:cap(q)]
			for i := range all {
				all[i] = entry(-79, -79)
			}
			if !reflect.DeepEqual(toTheBrim(m), before) || !slices.Equal(again, wantAt(m, bench)) || !slices.Equal(impl.At(m, bench), again) {
				t.Fatalf("what was written to At(%+v, %d) is seen elsewhere", before, bench)
			}
		}
	}
}

func TestSmithyCases(t *testing.T) {
	m := fullSmithy()
	if !impl.SmithyOk(m) {
		t.Fatal("fullSmithy is not right")
	}
	queues := [][]impl.Entry{
		{{Had: 999, Who: 11}, {Had: 1003, Who: 1}, {Had: 1003, Who: 4}, {Had: 1007, Who: 0}}, {}, {}, {},
		{{Had: -100, Who: 8}, {Had: 50, Who: 6}}, {}, {}, {{Had: -900000, Who: 5}, {Had: -899000, Who: 10}}, {},
	}
	used := []int64{404 + 20 + 150 + 500, 0, 0, 0, 5 + 660, 0, 0, 600 + 512, -1}
	for bench := range queues {
		if q := impl.At(m, int64(bench)); !slices.Equal(q, queues[bench]) {
			t.Errorf("At %d = %v", bench, q)
		}
		if got := impl.UsedAt(m, int64(bench)); got != used[bench] {
			t.Errorf("UsedAt %d = %d, not %d", bench, got, used[bench])
		}
	}
	for who, want := range []int64{500, 20, -1, 0, 150, 600, 660, 77, 5, -1, 512, 404, -1} {
		if got := impl.WantOf(m, int64(who)); got != want {
			t.Errorf("WantOf %d = %d, not %d", who, got, want)
		}
	}
	for _, n := range wrongPlaces {
		if q := impl.At(m, n); len(q) != 0 || impl.WantOf(m, n) != -1 || impl.UsedAt(m, n) != -1 {
			t.Errorf("of %d: %v, %d, %d", n, q, impl.WantOf(m, n), impl.UsedAt(m, n))
		}
	}
}

func TestWhatIsUsedIsWhatAllThereWant(t *testing.T) {
	for i, m := range rightSmithies() {
		checkRight(t, fmt.Sprint("smithy ", i), m)
	}
}

// A smith of every Util, in every guild, with bounds of its own around, below and above those of the guild.
func TestWantOfEveryUtil(t *testing.T) {
	bounds := [][2]int64{{0, 1024}, {0, 0}, {1024, 1024}, {100, 500}, {99, 501}, {0, 99}, {501, 1024}, {300, 300}, {600, 700}, {701, 900}}
	for g := int64(-1); g < 6; g++ {
		for _, b := range bounds {
			for util := int64(0); util <= 1024; util += 1 + util%7 {
				for state := int64(impl.SmAway); state <= impl.SmWorks; state++ {
					s := smith(state, 0, 0, util)
					s.Guild, s.Low, s.High = g, b[0], b[1]
					m := smithyWith("1 9:9", someGuilds(), s, smith(impl.SmWorks, 0, 0, 3))
					if state == impl.SmWorks {
						m.Smiths[1].State, m.Desks[0].Who = impl.SmWaits, 0
					}
					checkWho(t, m, 0)
					checkAtBench(t, m, 0)
					checkPromise11(t, m)
				}
			}
		}
	}
}

// All smiths at one bench, from none to twelve, in every order of three Hads: the queue has all of them.
func TestManyAtOneBench(t *testing.T) {
	for count := 0; count <= mostSmiths; count++ {
		for seed := range int64(200) {
			smiths, sum := []impl.Smith{}, int64(0)
			for who := range int64(count) {
				s := smith(impl.SmWaits, 1, (seed*31+who*who*17+who*seed)%3-1, (seed*97+who*389)%1025)
				s.Rank, s.Guild = (seed+who)%11-5, (seed+who)%7-1
				smiths = append(smiths, s)
			}
			if count > 0 {
				smiths[seed%int64(count)].State = impl.SmWorks
			}
			m := smithyWith(benchHall, someGuilds(), smiths...)
			checkPromise11(t, m)
			checkAtBench(t, m, 1)
			for who := range int64(count) {
				sum += wantWantOf(m, who)
			}
			if q := impl.At(m, 1); len(q) != count || impl.UsedAt(m, 1) != sum || len(impl.At(m, 0)) != 0 {
				t.Fatalf("%d at a bench: %v, %d, not %d: %+v", count, q, impl.UsedAt(m, 1), sum, m)
			}
		}
	}
	most := slices.Repeat([]impl.Smith{smith(impl.SmWaits, 0, 0, 1024)}, mostSmiths)
	most[5].State = impl.SmWorks
	if used := impl.UsedAt(smithyWith("1 1:1", nil, most...), 0); used != mostSmiths*1024 {
		t.Fatalf("twelve that want all use %d", used)
	}
}

func TestTwelveSmithsAndThirteen(t *testing.T) {
	for _, kind := range []impl.Smith{gone(), smith(impl.SmAway, 1, 7, 8), smith(impl.SmWaits, 0, 7, 8)} {
		for count := 1; count <= 15; count++ {
			smiths := slices.Repeat([]impl.Smith{kind}, count)
			smiths[0] = smith(impl.SmWorks, 0, 1, 2)
			checkEither(t, count <= mostSmiths, fmt.Sprint(count, " smiths"), smithyWith(benchHall, nil, smiths...))
		}
	}
	checkRefused(t, "a thousand smiths", smithyWith(benchHall, nil, make([]impl.Smith, 1000)...))
}

// A Desk for each bench there is, and of each room the place of a Pace: none, one too few, one and two too many.
func TestHowManyDesksAndPaces(t *testing.T) {
	for _, text := range []string{"1 1:1", benchHall, eightHall} {
		right := emptySmithy(text)
		for count := range len(right.Desks) + 3 {
			m := emptySmithy(text)
			m.Desks = slices.Repeat([]impl.Desk{{Open: true, Who: -1}}, count)
			checkEither(t, count == len(right.Desks), fmt.Sprint(count, " desks"), m)
		}
		for count := range len(right.Paces) + 3 {
			m := emptySmithy(text)
			m.Paces = make([]int64, count)
			checkEither(t, count == len(right.Paces), fmt.Sprint(count, " paces"), m)
		}
	}
}

func TestPlacesOfPaces(t *testing.T) {
	for _, text := range []string{"1 1:1", benchHall, eightHall, "1 1:1 2:2 3:3 4:4/1 1:1/1 1:1 2:2 3:3"} {
		for room, r := range mustHall(text).Rooms {
			for pace := int64(-3); pace <= 8; pace++ {
				m := emptySmithy(text)
				m.Paces[room] = pace
				checkEither(t, 0 <= pace && pace < int64(len(r.Paces)), fmt.Sprint("pace ", pace, " in room ", room), m)
			}
		}
	}
}

func TestMarksAndNowAtTheirLimits(t *testing.T) {
	for _, m := range []impl.Smithy{emptySmithy("1 1:1"), emptySmithy(eightHall)} {
		for bench := range m.Desks {
			for _, open := range []bool{true, false} {
				for _, mark := range []int64{leastHad, -mostMark - 2, -mostMark - 1, -mostMark, -mostMark + 1, -1, 0, 1, mostMark - 1, mostMark, mostMark + 1, mostMark + 2, mostHad} {
					x := lendSmithy(m)
					x.Desks[bench].Mark, x.Desks[bench].Open = mark, open
					checkEither(t, isFrom(mark, -mostMark, mostMark) && (open || len(m.Desks) > 1), fmt.Sprint("mark ", mark), x)
				}
			}
		}
	}
	for _, now := range []int64{math.MinInt64, -2, -1, 0, 1, mostNow - 1, mostNow, mostNow + 1, mostNow + 2, math.MaxInt64} {
		for _, m := range rightSmithies() {
			m.Now = now
			checkEither(t, isFrom(now, 0, mostNow), fmt.Sprint("now ", now), m)
		}
	}
}

// Every choice of benches that are Open: none is too few, one is enough.
func TestWhichBenchesAreOpen(t *testing.T) {
	for _, text := range []string{"1 1:1", benchHall, eightHall} {
		benches := len(emptySmithy(text).Desks)
		for set := range 1 << benches {
			m := emptySmithy(text)
			m.Smiths = []impl.Smith{gone(), smith(impl.SmAway, int64(benches)-1, 0, 0)}
			for bench := range m.Desks {
				m.Desks[bench].Open = set>>bench&1 == 1
			}
			checkEither(t, set != 0, fmt.Sprint("these open: ", set), m)
			for bench := range int64(benches) {
				x := lendSmithy(m)
				x.Smiths[0], x.Desks[bench].Who = smith(impl.SmWorks, bench, 0, 9), 0
				if impl.SmithyOk(x) != m.Desks[bench].Open {
					t.Fatalf("SmithyOk is %v with one that works at %d, and open are %d", impl.SmithyOk(x), bench, set)
				}
				checkSmithyOk(t, x)
			}
		}
	}
	m := emptySmithy(benchHall)
	m.Desks[1].Open = false
	if impl.UsedAt(m, 1) != 0 || len(impl.At(m, 1)) != 0 {
		t.Fatalf("UsedAt a bench that is closed is %d", impl.UsedAt(m, 1))
	}
}

// Who waits, works or is away at each bench there is and at those there are not, open and closed, with every May.
func TestWhereOneMayBe(t *testing.T) {
	for state := int64(impl.SmAway); state <= impl.SmWorks; state++ {
		for bench := range int64(8) {
			for may := int64(1); may <= 255; may++ {
				for _, open := range []bool{true, false} {
					m := emptySmithy(benchHall)
					s := smith(state, bench, 0, 5)
					s.May = may
					m.Smiths = []impl.Smith{s, smith(impl.SmWorks, bench, 0, 6)}
					there := bench < 3
					if there {
						m.Desks[bench].Open = open
						m.Desks[bench].Who = 1
					}
					switch state {
					case impl.SmWorks:
						m.Smiths = m.Smiths[:1]
						if there {
							m.Desks[bench].Who = 0
						}
					case impl.SmAway:
						m.Smiths = m.Smiths[:1]
						if there {
							m.Desks[bench].Who = -1
						}
					}
					right := there && (state == impl.SmAway || open && may>>bench&1 == 1)
					if got := impl.SmithyOk(m); got != right {
						t.Fatalf("SmithyOk(%+v) = %v", m, got)
					}
					checkSmithyOk(t, m)
				}
			}
		}
	}
}

// Who waits and who works is in the band of the Mark of its own bench; who is away needs not be.
func TestWhoIsThereIsInTheBand(t *testing.T) {
	for _, mark := range []int64{-mostMark, -mostMark + 1, -100000, -1, 0, 1, 7, 100000, mostMark - 1, mostMark} {
		for _, ahead := range []int64{-billion, -credit - 2, -credit - 1, -credit, -credit + 1, 0, lead - 1, lead, lead + 1, lead + 2, billion} {
			for bench := range int64(3) {
				m := smithyWith(benchHall, nil, smith(impl.SmWorks, bench, mark, 1), smith(impl.SmWaits, bench, mark+ahead, 2))
				m.Desks[bench].Mark = mark
				checkEither(t, isFrom(ahead, -credit, lead), fmt.Sprint("one who waits ", ahead, " ahead of ", mark), m)
				m.Smiths[0].State, m.Smiths[1].State, m.Desks[bench].Who = impl.SmWaits, impl.SmWorks, 1
				checkEither(t, isFrom(ahead, -credit, lead), fmt.Sprint("one who works ", ahead, " ahead of ", mark), m)
				m.Smiths[0].State, m.Smiths[1].State, m.Desks[bench].Who = impl.SmWorks, impl.SmAway, 0
				checkRight(t, "one who is away", m)
			}
		}
	}
}

func TestWhoWorksIsTheWho(t *testing.T) {
	cases := []struct {
		what   string
		right  bool
		change func(m *impl.Smithy)
	}{
		{"nothing changed", true, func(m *impl.Smithy) {}},
		{"another one that waits there as Who", false, func(m *impl.Smithy) { m.Desks[0].Who = 1 }},
		{"one that works elsewhere as Who", false, func(m *impl.Smithy) { m.Desks[0].Who = 4 }},
		{"one that is away as Who", false, func(m *impl.Smithy) { m.Desks[0].Who = 2 }},
		{"one that is gone as Who", false, func(m *impl.Smithy) { m.Desks[0].Who = 3 }},
		{"one past the last one as Who", false, func(m *impl.Smithy) { m.Desks[0].Who = 5 }},
		{"no Who where one works", false, func(m *impl.Smithy) { m.Desks[0].Who = -1 }},
		{"a Who below -1 where one works", false, func(m *impl.Smithy) { m.Desks[0].Who = -2 }},
		{"a Who where nobody works", false, func(m *impl.Smithy) { m.Desks[1].Who = 0 }},
		{"a Who where nobody works and it is open", false, func(m *impl.Smithy) { m.Desks[1] = impl.Desk{Open: true, Who: 4} }},
		{"a Who that is gone where nobody works", false, func(m *impl.Smithy) { m.Desks[1].Who = 3 }},
		{"a Who below -1 where nobody works", false, func(m *impl.Smithy) { m.Desks[1].Who = -2 }},
		{"the Who that is away where nobody works", false, func(m *impl.Smithy) { m.Desks[2].Who, m.Smiths[4] = 2, gone() }},
		{"two that work at one bench", false, func(m *impl.Smithy) { m.Smiths[1].State = impl.SmWorks }},
		{"two that work at one bench, the last one as Who", false, func(m *impl.Smithy) { m.Smiths[1].State, m.Desks[0].Who = impl.SmWorks, 1 }},
		{"two that work at one bench, and no Who", false, func(m *impl.Smithy) { m.Smiths[1].State, m.Desks[0].Who = impl.SmWorks, -1 }},
		{"the other one at work", true, func(m *impl.Smithy) {
			m.Smiths[0].State, m.Smiths[1].State, m.Desks[0].Who = impl.SmWaits, impl.SmWorks, 1
		}},
		{"two that wait where nobody works", false, func(m *impl.Smithy) { m.Smiths[0].State, m.Desks[0].Who = impl.SmWaits, -1 }},
		{"two that wait where nobody works, one as Who", false, func(m *impl.Smithy) { m.Smiths[0].State = impl.SmWaits }},
		{"one that waits where nobody works", false, func(m *impl.Smithy) { m.Smiths[0], m.Desks[0].Who = gone(), -1 }},
		{"one that waits where nobody works, as Who", false, func(m *impl.Smithy) { m.Smiths[0], m.Desks[0].Who = gone(), 1 }},
		{"one alone that waits as Who", false, func(m *impl.Smithy) { m.Smiths[4].State = impl.SmWaits }},
		{"one alone that waits, and no Who", false, func(m *impl.Smithy) { m.Smiths[4].State, m.Desks[2].Who = impl.SmWaits, -1 }},
		{"nobody there any more, and a Who", false, func(m *impl.Smithy) { m.Smiths[4] = gone() }},
		{"nobody there any more, and no Who", true, func(m *impl.Smithy) { m.Smiths[4], m.Desks[2].Who = gone(), -1 }},
		{"who worked being away, and no Who", true, func(m *impl.Smithy) { m.Smiths[4].State, m.Desks[2].Who = impl.SmAway, -1 }},
		{"both Whos in each other's place", false, func(m *impl.Smithy) { m.Desks[0].Who, m.Desks[2].Who = 4, 0 }},
		{"who works in no May", false, func(m *impl.Smithy) { m.Smiths[4].May = 3 }},
		{"who waits in no May", false, func(m *impl.Smithy) { m.Smiths[1].May = 6 }},
		{"who works at a closed bench", false, func(m *impl.Smithy) { m.Desks[2].Open = false }},
		{"who works and waits at a closed bench", false, func(m *impl.Smithy) { m.Desks[0].Open = false }},
		{"who is away at a closed bench", true, func(m *impl.Smithy) { m.Smiths[2].Bench = 1 }},
		{"who is away one past the last bench", false, func(m *impl.Smithy) { m.Smiths[2].Bench = 3 }},
		{"who is away at the greatest bench", false, func(m *impl.Smithy) { m.Smiths[2].Bench = 7 }},
		{"who works one past the last bench", false, func(m *impl.Smithy) { m.Smiths[4].Bench, m.Smiths[4].May, m.Desks[2].Who = 3, 255, -1 }},
		{"who waits one past the last bench", false, func(m *impl.Smithy) { m.Smiths[1].Bench, m.Smiths[1].May = 3, 255 }},
		{"no bench open", false, func(m *impl.Smithy) { m.Desks[0].Open, m.Desks[2].Open = false, false }},
	}
	for _, k := range cases {
		m := lendSmithy(middleSmithy())
		k.change(&m)
		checkEither(t, k.right, k.what, m)
	}
}

// The last guild there is and one past it, of smiths in each state; who is gone needs no guild to be there.
func TestGuildsOfSmithsAreThere(t *testing.T) {
	for count := range 7 {
		guilds := slices.Repeat([]impl.Guild{guild(-1, 5, 6)}, count)
		for g := int64(-2); g <= 7; g++ {
			for state := int64(impl.SmAway); state <= impl.SmWorks; state++ {
				smiths := []impl.Smith{smith(state, 0, 0, 9), smith(impl.SmWorks, 0, 0, 9)}
				smiths[0].Guild = g
				if state == impl.SmWorks {
					smiths[1].State = impl.SmWaits
				}
				m := smithyWith(benchHall, guilds, smiths...)
				checkEither(t, -1 <= g && g < int64(count), fmt.Sprint("guild ", g, " of ", count), m)
			}
		}
		checkRight(t, "one that is gone", smithyWith(benchHall, guilds, gone()))
	}
}

func TestWrongGuildsAndSmiths(t *testing.T) {
	for _, guilds := range [][]impl.Guild{
		{guild(0, 0, 0)}, {guild(-2, 0, 0)}, {guild(-1, 1, 0)}, {guild(-1, -1, 0)}, {guild(-1, 0, 1025)}, {guild(-1, 0, 1), guild(1, 0, 1)},
		slices.Repeat([]impl.Guild{guild(-1, 0, 1)}, 7),
	} {
		checkRefused(t, "wrong guilds", smithyWith(benchHall, guilds))
		checkRefused(t, "wrong guilds", smithyWith(benchHall, guilds, smith(impl.SmWorks, 0, 0, 5)))
	}
	wrong := []impl.Smith{
		{State: 4}, {State: -1}, {Bench: 1}, {Rank: 1}, {May: 1}, {Guild: -1}, {High: 1024}, {Had: 1}, {Carry: 1}, {Util: 1}, {Work: 1}, {State: impl.SmAway},
		{State: impl.SmAway, May: 1, Rank: 6}, {State: impl.SmAway, May: 256}, {State: impl.SmAway, May: 1, Low: 1}, {State: impl.SmAway, May: 1, Carry: 1024},
	}
	for _, s := range wrong {
		for place := range mostSmiths {
			smiths := slices.Repeat([]impl.Smith{gone()}, mostSmiths)
			smiths[place] = s
			checkRefused(t, "a wrong smith", smithyWith(benchHall, someGuilds(), smiths...))
		}
	}
}

// named is a number somewhere in a smithy.
type named struct {
	name string
	at   *int64
}

// numbersOf holds each number that there is in a smithy, of every part of it.
func numbersOf(m *impl.Smithy) []named {
	list := []named{{"Now", &m.Now}}
	for i := range m.Hall.Rooms {
		r := &m.Hall.Rooms[i]
		list = append(list, named{fmt.Sprint("Benches of room ", i), &r.Benches})
		for j := range r.Paces {
			list = append(list, named{fmt.Sprint("Force ", j, " of room ", i), &r.Paces[j].Force}, named{fmt.Sprint("Coal ", j, " of room ", i), &r.Paces[j].Coal})
		}
	}
	for i := range m.Guilds {
		g := &m.Guilds[i]
		list = append(list, named{fmt.Sprint("Above of guild ", i), &g.Above}, named{fmt.Sprint("Low of guild ", i), &g.Low}, named{fmt.Sprint("High of guild ", i), &g.High})
	}
	for i := range m.Smiths {
		for j, name := range smithFields {
			list = append(list, named{fmt.Sprint(name, " of smith ", i), fieldOf(&m.Smiths[i], j)})
		}
	}
	for i := range m.Desks {
		list = append(list, named{fmt.Sprint("Who of desk ", i), &m.Desks[i].Who}, named{fmt.Sprint("Mark of desk ", i), &m.Desks[i].Mark})
	}
	for i := range m.Paces {
		list = append(list, named{fmt.Sprint("pace of room ", i), &m.Paces[i]})
	}
	return list
}

// wrongNumbersInEveryPart goes through two smithies with the least and the greatest int64, and others that are right
// nowhere, in each number of each part and in all of them.
func wrongNumbersInEveryPart(yield func(what string, m impl.Smithy) bool) {
	for _, right := range []impl.Smithy{middleSmithy(), fullSmithy()} {
		for i := range numbersOf(&right) {
			for _, n := range wrongInAnyField {
				m := lendSmithy(right)
				number := numbersOf(&m)[i]
				*number.at = n
				if !yield(fmt.Sprint(n, " as ", number.name), m) {
					return
				}
			}
		}
		for _, n := range wrongInAnyField {
			m := lendSmithy(right)
			for _, number := range numbersOf(&m) {
				*number.at = n
			}
			if !yield(fmt.Sprint(n, " everywhere"), m) {
				return
			}
		}
	}
}

func TestWrongNumbersInEveryPart(t *testing.T) {
	for what, m := range wrongNumbersInEveryPart {
		checkRefused(t, what, m)
	}
}

// Each number of a right smithy a little off, and at many others that may be right or wrong there, held against a
// reckoning.
func TestEveryNumberALittleOff(t *testing.T) {
	others := []int64{-mostMark - 1, -mostMark, -20001, -1025, -6, -5, -2, -1, 0, 1, 2, 3, 4, 5, 6, 7, 8, 11, 12, 13, 127, 128, 255, 256, 1023, 1024, 1025, 63001, mostNow, mostNow + 1, mostMark, mostMark + 1, mostWork + 1}
	for _, right := range []impl.Smithy{middleSmithy(), fullSmithy()} {
		for i, number := range numbersOf(&right) {
			for off := int64(-2); off <= 2; off++ {
				m := lendSmithy(right)
				*numbersOf(&m)[i].at = *number.at + off
				checkSmithy(t, m)
			}
			for _, n := range others {
				m := lendSmithy(right)
				*numbersOf(&m)[i].at = n
				checkSmithyOk(t, m)
				checkWho(t, m, 0)
				checkAtBench(t, m, 0)
			}
		}
	}
}

func TestEmptyAndNilLists(t *testing.T) {
	checkRefused(t, "nothing at all", impl.Smithy{})
	empty := impl.Smithy{Hall: impl.Hall{Rooms: []impl.Room{}}, Guilds: []impl.Guild{}, Smiths: []impl.Smith{}, Desks: []impl.Desk{}, Paces: []int64{}}
	checkRefused(t, "nothing at all but empty lists", empty)
	drops := []struct {
		what  string
		right bool
		drop  func(m *impl.Smithy)
	}{
		{"no rooms", false, func(m *impl.Smithy) { m.Hall.Rooms = nil }},
		{"empty rooms", false, func(m *impl.Smithy) { m.Hall.Rooms = m.Hall.Rooms[:0] }},
		{"a room of no paces", false, func(m *impl.Smithy) { m.Hall.Rooms[1].Paces = nil }},
		{"a room of empty paces", false, func(m *impl.Smithy) { m.Hall.Rooms[1].Paces = m.Hall.Rooms[1].Paces[:0] }},
		{"no guilds", false, func(m *impl.Smithy) { m.Guilds = nil }},
		{"empty guilds", false, func(m *impl.Smithy) { m.Guilds = m.Guilds[:0] }},
		{"no smiths where a desk has a Who", false, func(m *impl.Smithy) { m.Smiths = nil }},
		{"empty smiths where a desk has a Who", false, func(m *impl.Smithy) { m.Smiths = m.Smiths[:0] }},
		{"no desks", false, func(m *impl.Smithy) { m.Desks = nil }},
		{"empty desks", false, func(m *impl.Smithy) { m.Desks = m.Desks[:0] }},
		{"no paces", false, func(m *impl.Smithy) { m.Paces = nil }},
		{"empty paces", false, func(m *impl.Smithy) { m.Paces = m.Paces[:0] }},
		{"no smiths and no Whos", true, func(m *impl.Smithy) { m.Smiths, m.Desks[0].Who, m.Desks[2].Who = nil, -1, -1 }},
		{"no smiths, no Whos and no guilds", true, func(m *impl.Smithy) { m.Smiths, m.Guilds, m.Desks[0].Who, m.Desks[2].Who = nil, nil, -1, -1 }},
	}
	for _, k := range drops {
		m := lendSmithy(middleSmithy())
		k.drop(&m)
		checkEither(t, k.right, k.what, m)
	}
}

func TestWhoAndBenchOutOfRange(t *testing.T) {
	for _, m := range rightSmithies() {
		for _, n := range slices.Concat(wrongPlaces, []int64{int64(len(m.Smiths)), int64(len(m.Smiths)) + 1}) {
			if impl.WantOf(m, n) != -1 {
				t.Fatalf("WantOf(%+v, %d) = %d", m, n, impl.WantOf(m, n))
			}
		}
		for _, n := range slices.Concat(wrongPlaces, []int64{int64(len(m.Desks)), int64(len(m.Desks)) + 1, 8, 9}) {
			if q := impl.At(m, n); len(q) != 0 || impl.UsedAt(m, n) != -1 {
				t.Fatalf("at %d of %+v: %v, %d", n, m, q, impl.UsedAt(m, n))
			}
		}
		for bench := range int64(len(m.Desks)) {
			if impl.UsedAt(m, bench) < 0 {
				t.Fatalf("UsedAt(%+v, %d) = %d", m, bench, impl.UsedAt(m, bench))
			}
		}
	}
}

// Every smithy of two benches and of two smiths in all states, held against a reckoning.
func TestSmallSmithiesHeldAgainstAReckoning(t *testing.T) {
	kinds := []impl.Smith{gone()}
	for state := int64(impl.SmAway); state <= impl.SmWorks; state++ {
		for bench := range int64(3) {
			for may := int64(1); may <= 3; may++ {
				s := smith(state, bench, 10*state+bench, 100*state+10*bench+may)
				s.May = may
				kinds = append(kinds, s)
			}
		}
	}
	desks := []impl.Desk{}
	for who := int64(-1); who <= 2; who++ {
		desks = append(desks, impl.Desk{Open: true, Who: who}, impl.Desk{Who: who}, impl.Desk{Open: true, Who: who, Mark: 20022})
	}
	right := 0
	m := emptySmithy("1 1:1/1 2:2")
	m.Smiths = make([]impl.Smith, 2)
	for _, m.Smiths[0] = range kinds {
		for _, m.Smiths[1] = range kinds {
			for _, m.Desks[0] = range desks {
				for _, m.Desks[1] = range desks {
					checkSmithyOk(t, m)
					if !impl.SmithyOk(m) {
						continue
					}
					right++
					checkPromise11(t, m)
					for n := int64(-1); n <= 2; n++ {
						checkWho(t, m, n)
						checkAtBench(t, m, n)
					}
				}
			}
		}
	}
	if right < 500 {
		t.Fatalf("only %d of them are right", right)
	}
}
