package tests

import (
	"fmt"
	"math"
	"reflect"
	"slices"
	"strings"
	"testing"

	"loop.example/g00553/impl"
)

// manyWhos holds what may stand as a Who: smiths there are, smiths there are not, none, and the extremes.
var manyWhos = slices.Concat(wrongPlaces, []int64{0, 1, 2, 3, 4, 5, 6, 7, 8, 9, 10, 11})

// wantTurned goes through the smiths for whoever had least, and makes no queue.
func wantTurned(m impl.Smithy) impl.Smithy {
	if !wantAllInPlace(m) {
		return impl.Smithy{}
	}
	x := lendSmithy(m)
	for bench := range x.Desks {
		first := -1
		for who, s := range x.Smiths {
			if s.State < 2 || s.Bench != int64(bench) {
				continue
			}
			x.Smiths[who].State = 2
			if first < 0 || s.Had < x.Smiths[first].Had {
				first = who
			}
		}
		x.Desks[bench].Who = int64(first)
		if first >= 0 {
			x.Smiths[first].State = 3
			x.Desks[bench].Mark = wantMarked(x.Desks[bench].Mark, x.Smiths[first].Had)
		}
	}
	return x
}

func wantIsIdle(m impl.Smithy, bench int64) bool {
	if !wantSmithyOk(m) || !isFrom(bench, 0, int64(len(m.Desks))-1) || !m.Desks[bench].Open {
		return false
	}
	return !slices.ContainsFunc(m.Smiths, func(s impl.Smith) bool { return s.State >= 2 && s.Bench == bench })
}

// wantWorking asks the smiths, where the program asks the desks.
func wantWorking(m impl.Smithy) []int64 {
	if !wantSmithyOk(m) {
		return nil
	}
	list := slices.Repeat([]int64{-1}, len(m.Desks))
	for who, s := range m.Smiths {
		if s.State == 3 {
			list[s.Bench] = int64(who)
		}
	}
	return list
}

// checkTurnAnswers holds all of the chapter against a reckoning, of any smithy at all.
func checkTurnAnswers(t *testing.T, m impl.Smithy, benches ...int64) {
	t.Helper()
	if got, want := impl.Turned(m), wantTurned(m); !sameSmithy(got, want) {
		t.Fatalf("Turned(%+v) = %+v, not %+v", m, got, want)
	}
	if got, want := impl.Working(m), wantWorking(m); !slices.Equal(got, want) {
		t.Fatalf("Working(%+v) = %v, not %v", m, got, want)
	}
	for _, bench := range benches {
		if got, want := impl.IsIdle(m, bench), wantIsIdle(m, bench); got != want {
			t.Fatalf("IsIdle(%+v, %d) = %v", m, bench, got)
		}
	}
}

// checkTurn asks all of it as it is and as it is lent, and watches all memory.
func checkTurn(t *testing.T, m impl.Smithy) {
	t.Helper()
	benches := slices.Concat(wrongPlaces, []int64{0, 1, 2, 3, 4, 5, 6, 7, 8, 9})
	for _, given := range []impl.Smithy{m, lendSmithy(m)} {
		before := toTheBrim(given)
		checkTurnAnswers(t, given, benches...)
		checkNoneShared(t, given, impl.Turned(given), impl.Turned(given), impl.Working(given), impl.Working(given))
		if after := toTheBrim(given); !reflect.DeepEqual(after, before) {
			t.Fatalf("%+v became %+v", before, after)
		}
	}
}

// checkOnlyTurnsChange asks that x has all that m had, but for who works, for Whos and for Marks.
func checkOnlyTurnsChange(t *testing.T, m, x impl.Smithy) {
	t.Helper()
	if !sameHall(x.Hall, m.Hall) || !slices.Equal(x.Guilds, m.Guilds) || !slices.Equal(x.Paces, m.Paces) || x.Now != m.Now ||
		len(x.Smiths) != len(m.Smiths) || len(x.Desks) != len(m.Desks) {
		t.Fatalf("Turned(%+v) = %+v", m, x)
	}
	for bench, d := range x.Desks {
		if d.Open != m.Desks[bench].Open {
			t.Fatalf("bench %d is Open %v: Turned(%+v) = %+v", bench, d.Open, m, x)
		}
	}
	for who, s := range x.Smiths {
		was := m.Smiths[who]
		wasThere, isThere := was.State == impl.SmWaits || was.State == impl.SmWorks, s.State == impl.SmWaits || s.State == impl.SmWorks
		if wasThere != isThere || !wasThere && s.State != was.State {
			t.Fatalf("%d was in state %d, and is in %d: Turned(%+v) = %+v", who, was.State, s.State, m, x)
		}
		for i := 1; i < len(smithFields); i++ {
			if *fieldOf(&s, i) != *fieldOf(&was, i) {
				t.Fatalf("%s of %d is another: Turned(%+v) = %+v", smithFields[i], who, m, x)
			}
		}
	}
}

// checkFirstWorks asks it of one bench of x, which was Turned; mark is the one that the bench had.
func checkFirstWorks(t *testing.T, x impl.Smithy, bench, mark int64) {
	t.Helper()
	d, working, q := x.Desks[bench], impl.Working(x)[bench], impl.At(x, bench)
	first, found := impl.FirstIn(q)
	if impl.IsIdle(x, bench) != (d.Open && !found) {
		t.Fatalf("IsIdle(%+v, %d) = %v", x, bench, impl.IsIdle(x, bench))
	}
	if !found {
		if d.Who != -1 || working != -1 || d.Mark != mark {
			t.Fatalf("nobody is at %d: %+v", bench, x)
		}
		return
	}
	if d.Who != first.Who || working != first.Who || d.Mark != impl.Marked(mark, first.Had) {
		t.Fatalf("%d is first at %d, where the mark was %d: %+v", first.Who, bench, mark, x)
	}
	for _, e := range q {
		s, state := x.Smiths[e.Who], int64(impl.SmWaits)
		if e.Who == first.Who {
			state = impl.SmWorks
		}
		if s.State != state || s.Had < first.Had || s.Had == first.Had && e.Who < first.Who {
			t.Fatalf("%d is first at %d, and there is %d: %+v", first.Who, bench, e.Who, x)
		}
	}
}

// checkPromise12 is the promise by its words, of a smithy that is right but for whose turn it is.
func checkPromise12(t *testing.T, m impl.Smithy) {
	t.Helper()
	x := impl.Turned(m)
	if !impl.SmithyOk(x) || !sameSmithy(impl.Turned(x), x) {
		t.Fatalf("Turned(%+v) = %+v, and again %+v", m, x, impl.Turned(x))
	}
	checkOnlyTurnsChange(t, m, x)
	for bench := range m.Desks {
		checkFirstWorks(t, x, int64(bench), m.Desks[bench].Mark)
	}
	for who, s := range x.Smiths {
		if s.State == impl.SmWaits && (impl.Working(x)[s.Bench] == -1 || impl.IsIdle(x, s.Bench)) {
			t.Fatalf("%d waits at %d, which is idle: %+v", who, s.Bench, x)
		}
	}
}

func checkNoneIdleNorWorking(t *testing.T, what string, m impl.Smithy) {
	t.Helper()
	if list := impl.Working(m); len(list) != 0 {
		t.Fatalf("Working with %s = %v: %+v", what, list, m)
	}
	for bench := int64(-1); bench <= 8; bench++ {
		if impl.IsIdle(m, bench) {
			t.Fatalf("%d is idle with %s: %+v", bench, what, m)
		}
	}
}

func checkTurnOfRight(t *testing.T, what string, m impl.Smithy) {
	t.Helper()
	if !impl.SmithyOk(m) || len(impl.Working(m)) != len(m.Desks) {
		t.Fatalf("not SmithyOk with %s, or Working is %v: %+v", what, impl.Working(m), m)
	}
	checkTurn(t, m)
	checkPromise12(t, m)
}

// checkTurnMended is asked of what is wrong in nothing but whose turn it is.
func checkTurnMended(t *testing.T, what string, m impl.Smithy) {
	t.Helper()
	if impl.SmithyOk(m) {
		t.Fatalf("SmithyOk with %s: %+v", what, m)
	}
	checkNoneIdleNorWorking(t, what, m)
	checkTurn(t, m)
	checkPromise12(t, m)
}

// checkNoTurn is asked of what is wrong in anything else.
func checkNoTurn(t *testing.T, what string, m impl.Smithy) {
	t.Helper()
	if x := impl.Turned(m); !sameSmithy(x, impl.Smithy{}) {
		t.Fatalf("Turned with %s = %+v: %+v", what, x, m)
	}
	checkNoneIdleNorWorking(t, what, m)
	checkTurn(t, m)
}

func TestTurnCases(t *testing.T) {
	cases := []struct {
		m             impl.Smithy
		before, after []int64
		marks         []int64
		idle          []int64
		states        []int64
	}{
		{fullSmithy(), []int64{0, -1, -1, -1, 6, -1, -1, 5}, []int64{11, -1, -1, -1, 8, -1, -1, 5},
			[]int64{1000, mostMark, -mostMark, 0, 0, 0, 0, -900000}, []int64{1, 2, 6}, []int64{2, 2, 0, 1, 2, 3, 2, 1, 3, 0, 2, 3}},
		{middleSmithy(), []int64{0, -1, 4}, []int64{1, -1, 4}, []int64{203, 0, 31}, nil, []int64{2, 3, 1, 0, 3}},
		{emptySmithy(benchHall), []int64{-1, -1, -1}, []int64{-1, -1, -1}, []int64{0, 0, 0}, []int64{0, 1, 2}, nil},
		{smithyWith("1 1:1", nil, smith(impl.SmWorks, 0, 7, 1)), []int64{0}, []int64{0}, []int64{7}, nil, []int64{3}},
		{smithyWith("1 1:1", nil, smith(impl.SmAway, 0, 7, 1), gone()), []int64{-1}, []int64{-1}, []int64{0}, []int64{0}, []int64{1, 0}},
	}
	for _, k := range cases {
		x := impl.Turned(k.m)
		if !slices.Equal(impl.Working(k.m), k.before) || !slices.Equal(impl.Working(x), k.after) {
			t.Errorf("Working = %v, and Turned %v: %+v", impl.Working(k.m), impl.Working(x), k.m)
		}
		idle := []int64{}
		for bench, d := range x.Desks {
			if d.Who != k.after[bench] || d.Mark != k.marks[bench] {
				t.Errorf("desk %d is %+v: Turned(%+v)", bench, d, k.m)
			}
			if impl.IsIdle(k.m, int64(bench)) != impl.IsIdle(x, int64(bench)) {
				t.Errorf("Turned, IsIdle %d is %v: %+v", bench, impl.IsIdle(x, int64(bench)), k.m)
			}
			if impl.IsIdle(x, int64(bench)) {
				idle = append(idle, int64(bench))
			}
		}
		if !slices.Equal(idle, k.idle) {
			t.Errorf("idle are %v: %+v", idle, k.m)
		}
		for who, s := range x.Smiths {
			if s.State != k.states[who] {
				t.Errorf("Turned, %d is in state %d: %+v", who, s.State, k.m)
			}
		}
		checkTurnOfRight(t, "nothing wrong", k.m)
	}
}

func TestWhoHadLeastWorks(t *testing.T) {
	for i, m := range rightSmithies() {
		checkTurnOfRight(t, fmt.Sprint("nothing wrong, smithy ", i), m)
	}
	for _, h := range rightHalls(t) {
		m, _ := impl.NewSmithy(h)
		checkTurnOfRight(t, "nothing but a hall", m)
		if !sameSmithy(impl.Turned(m), m) {
			t.Fatalf("Turned(%+v) = %+v", m, impl.Turned(m))
		}
	}
}

// lots draws numbers that hang on nothing but the one it starts with.
type lots uint64

func (l *lots) below(n int) int64 {
	*l = *l*6364136223846793005 + 1442695040888963407
	return int64(uint64(*l) >> 33 % uint64(n))
}

func oneOf[T any](l *lots, list ...T) T { return list[l.below(len(list))] }

// drawnSmith is at that bench, or away from it; few Hads, so that some had the same.
func drawnSmith(l *lots, bench int64, d impl.Desk) impl.Smith {
	s := impl.Smith{
		State: oneOf[int64](l, impl.SmAway, impl.SmWaits, impl.SmWaits, impl.SmWorks), Bench: bench, Rank: l.below(11) - 5,
		May: l.below(256) | 1<<bench, Guild: l.below(7) - 1, Low: l.below(500), High: 500 + l.below(525), Util: l.below(1025), Work: l.below(million),
	}
	s.Carry = l.below(int(weightAt(s.Rank)))
	s.Had = d.Mark + oneOf[int64](l, -credit, -credit+1, -7, -1, 0, 0, 1, 2, 2, 9, 5000, lead-1, lead)
	if !d.Open {
		s.State = impl.SmAway
	}
	if s.State == impl.SmAway {
		s.Had, s.May = oneOf(l, leastHad, d.Mark-credit-1, d.Mark, mostHad), 1+l.below(255)
	}
	return s
}

// drawnSmithy is right but for whose turn it is, of which nothing is as it should be but by chance.
func drawnSmithy(l *lots, h impl.Hall, count int) impl.Smithy {
	m, _ := impl.NewSmithy(h)
	m.Guilds, m.Now = someGuilds(), l.below(mostNow+1)
	for room, r := range m.Hall.Rooms {
		m.Paces[room] = l.below(len(r.Paces))
	}
	for bench := range m.Desks {
		m.Desks[bench] = impl.Desk{Open: l.below(4) > 0, Who: oneOf(l, manyWhos...), Mark: oneOf[int64](l, -mostMark, -mostMark+1, -5, 0, 5, billion, mostMark-2, mostMark)}
	}
	m.Desks[l.below(len(m.Desks))].Open = true
	for range count {
		if l.below(5) == 0 {
			m.Smiths = append(m.Smiths, gone())
			continue
		}
		bench := l.below(len(m.Desks))
		m.Smiths = append(m.Smiths, drawnSmith(l, bench, m.Desks[bench]))
	}
	return m
}

// withTurns lets one of those at each bench work, whoever it is.
func withTurns(l *lots, m impl.Smithy) impl.Smithy {
	x := lendSmithy(m)
	for bench := range x.Desks {
		x.Desks[bench].Who = -1
		there := []int64{}
		for who, s := range x.Smiths {
			if s.State >= impl.SmWaits && s.Bench == int64(bench) {
				x.Smiths[who].State = impl.SmWaits
				there = append(there, int64(who))
			}
		}
		if len(there) > 0 {
			who := oneOf(l, there...)
			x.Desks[bench].Who, x.Smiths[who].State = who, impl.SmWorks
		}
	}
	return x
}

// Every hall from one bench to eight, with none to twelve smiths of all states, ranks and guilds.
func TestManySmithiesAreTurned(t *testing.T) {
	l, right, called := lots(12), 0, 0
	for _, h := range rightHalls(t) {
		for count := range 3 * (mostSmiths + 1) {
			m := drawnSmithy(&l, h, count/3)
			if impl.SmithyOk(m) {
				right++
			} else {
				checkTurnMended(t, "turns that were drawn", m)
			}
			x := withTurns(&l, m)
			checkTurnOfRight(t, "somebody at work", x)
			if !sameSmithy(impl.Turned(x), impl.Turned(m)) {
				t.Fatalf("whose turn it was is seen: Turned(%+v) = %+v", x, impl.Turned(x))
			}
			if !slices.Equal(impl.Working(x), impl.Working(impl.Turned(x))) {
				called++
			}
		}
	}
	if right > 100 || called < 500 {
		t.Fatalf("%d were right as they were drawn, and in %d another one was called", right, called)
	}
}

// All that may be wrong in whose turn it is, and nothing else.
func spoiledTurns() []spoiled {
	return []spoiled{
		{"nobody that works and all that wait", func(m *impl.Smithy) {
			m.Smiths[0].State, m.Smiths[4].State, m.Desks[0].Who, m.Desks[2].Who = impl.SmWaits, impl.SmWaits, -1, -1
		}},
		{"nobody that works and both Whos", func(m *impl.Smithy) { m.Smiths[0].State, m.Smiths[4].State = impl.SmWaits, impl.SmWaits }},
		{"all that work", func(m *impl.Smithy) { m.Smiths[1].State = impl.SmWorks }},
		{"all that work and no Who", func(m *impl.Smithy) { m.Smiths[1].State, m.Desks[0].Who, m.Desks[2].Who = impl.SmWorks, -1, -1 }},
		{"another one that waits there as Who", func(m *impl.Smithy) { m.Desks[0].Who = 1 }},
		{"one that works elsewhere as Who", func(m *impl.Smithy) { m.Desks[0].Who = 4 }},
		{"one that is away as Who", func(m *impl.Smithy) { m.Desks[0].Who = 2 }},
		{"one that is away from there as Who", func(m *impl.Smithy) { m.Desks[2].Who = 2 }},
		{"one that is gone as Who", func(m *impl.Smithy) { m.Desks[0].Who = 3 }},
		{"one past the last one as Who", func(m *impl.Smithy) { m.Desks[0].Who = 5 }},
		{"no Who where one works", func(m *impl.Smithy) { m.Desks[0].Who = -1 }},
		{"a Who below -1 where one works", func(m *impl.Smithy) { m.Desks[0].Who = -2 }},
		{"the least int64 as Who", func(m *impl.Smithy) { m.Desks[0].Who = math.MinInt64 }},
		{"the greatest int64 as Who", func(m *impl.Smithy) { m.Desks[2].Who = math.MaxInt64 }},
		{"a Who at a bench that is closed", func(m *impl.Smithy) { m.Desks[1].Who = 0 }},
		{"the greatest int64 as Who of a bench that is closed", func(m *impl.Smithy) { m.Desks[1].Who = math.MaxInt64 }},
		{"a Who at a bench where nobody is", func(m *impl.Smithy) { m.Desks[1] = impl.Desk{Open: true, Who: 4} }},
		{"both Whos in each other's place", func(m *impl.Smithy) { m.Desks[0].Who, m.Desks[2].Who = 4, 0 }},
		{"the first one alone that waits", func(m *impl.Smithy) { m.Smiths[0], m.Desks[0].Who = gone(), -1 }},
		{"who worked being gone", func(m *impl.Smithy) { m.Smiths[0] = gone() }},
		{"who worked being away", func(m *impl.Smithy) { m.Smiths[0].State = impl.SmAway }},
		{"who worked alone being gone", func(m *impl.Smithy) { m.Smiths[4] = gone() }},
		{"who worked alone being away", func(m *impl.Smithy) { m.Smiths[4].State = impl.SmAway }},
		{"no smiths, and Whos", func(m *impl.Smithy) { m.Smiths = nil }},
		{"empty smiths, and Whos", func(m *impl.Smithy) { m.Smiths = m.Smiths[:0] }},
		{"two that worked at two benches being at one", func(m *impl.Smithy) { m.Smiths[4].Bench, m.Smiths[4].May, m.Smiths[4].Had = 0, 255, 201 }},
	}
}

func TestWrongTurnsAreMended(t *testing.T) {
	for _, k := range spoiledTurns() {
		m := lendSmithy(middleSmithy())
		k.change(&m)
		checkTurnMended(t, k.what, m)
	}
}

// Whatever stands as the Who of each bench, what is Turned is the same.
func TestEveryWho(t *testing.T) {
	for _, right := range []impl.Smithy{middleSmithy(), fullSmithy(), emptySmithy("1 1:1"), emptySmithy(eightHall)} {
		want := impl.Turned(right)
		for bench := range right.Desks {
			for _, who := range manyWhos {
				m := lendSmithy(right)
				m.Desks[bench].Who = who
				if who == right.Desks[bench].Who {
					checkTurnOfRight(t, "its own Who", m)
				} else {
					checkTurnMended(t, fmt.Sprint(who, " as Who of ", bench), m)
				}
				if !sameSmithy(impl.Turned(m), want) {
					t.Fatalf("Turned with %d as Who of %d = %+v", who, bench, impl.Turned(m))
				}
			}
		}
		for _, who := range manyWhos {
			m := lendSmithy(right)
			for bench := range m.Desks {
				m.Desks[bench].Who = who
			}
			if !sameSmithy(impl.Turned(m), want) {
				t.Fatalf("Turned with %d as every Who = %+v", who, impl.Turned(m))
			}
		}
	}
}

// Whoever of all that are there works and whoever waits, what is Turned is the same.
func TestEveryChoiceOfWhoWorks(t *testing.T) {
	for _, right := range []impl.Smithy{middleSmithy(), fullSmithy()} {
		there := []int{}
		for who, s := range right.Smiths {
			if s.State >= impl.SmWaits {
				there = append(there, who)
			}
		}
		want := impl.Turned(right)
		for set := range 1 << len(there) {
			m := lendSmithy(right)
			for i, who := range there {
				m.Smiths[who].State = impl.SmWaits + int64(set>>i&1)
			}
			if !sameSmithy(impl.Turned(m), want) {
				t.Fatalf("Turned(%+v) = %+v", m, impl.Turned(m))
			}
			checkTurnAnswers(t, m, 0, 1, 2)
			checkPromise12(t, m)
		}
	}
}

// Of those that had the same the one with the least number is first, whoever else is there.
func TestWhoHadTheSame(t *testing.T) {
	for count := 2; count <= mostSmiths; count++ {
		for first := range count {
			for _, ahead := range []impl.Smith{gone(), smith(impl.SmAway, 1, -credit-1, 5), smith(impl.SmWaits, 1, 31, 5), smith(impl.SmWorks, 0, 1, 5)} {
				smiths := slices.Repeat([]impl.Smith{ahead}, first)
				for len(smiths) < count {
					smiths = append(smiths, smith(impl.SmWaits, 1, 30, 5))
				}
				smiths[count-1].State = impl.SmWorks
				m := smithyWith(benchHall, nil, smiths...)
				x := impl.Turned(m)
				if x.Desks[1].Who != int64(first) || x.Smiths[first].State != impl.SmWorks || x.Desks[1].Mark != 30 {
					t.Fatalf("%d is first: Turned(%+v) = %+v", first, m, x)
				}
				checkTurnAnswers(t, m, 0, 1)
				checkPromise12(t, m)
			}
		}
	}
}

// One had less by one than all others: each of them in turn.
func TestWhoHadLessByOne(t *testing.T) {
	for count := 1; count <= mostSmiths; count++ {
		for first := range count {
			for _, had := range []int64{-credit, -1, 0, 1, lead - 1} {
				smiths := slices.Repeat([]impl.Smith{smith(impl.SmWaits, 2, had+1, 5)}, count)
				smiths[first].Had = had
				m := smithyWith(benchHall, nil, smiths...)
				x := impl.Turned(m)
				if x.Desks[2].Who != int64(first) || x.Desks[2].Mark != max(had, 0) || x.Desks[0].Who != -1 {
					t.Fatalf("%d had %d: Turned(%+v) = %+v", first, had, m, x)
				}
				checkPromise12(t, m)
			}
		}
	}
}

// A Mark rises to what the first one had, stays where that is less, and is never above its limit.
func TestMarksBehindATurn(t *testing.T) {
	for _, mark := range []int64{-mostMark, -mostMark + 1, -100000, -1, 0, 1, 7, 100000, mostMark - lead, mostMark - 2, mostMark - 1, mostMark} {
		for _, ahead := range []int64{-credit, -credit + 1, -2, -1, 0, 1, 2, lead - 1, lead} {
			want := min(mark+max(ahead, 0), mostMark)
			for bench := range int64(3) {
				m := smithyWith(benchHall, nil, smith(impl.SmWorks, bench, mark+lead, 1), smith(impl.SmWaits, bench, mark+ahead, 2), smith(impl.SmAway, bench, mark-1, 3))
				m.Desks[bench].Mark = mark
				x := impl.Turned(m)
				if x.Desks[bench].Mark != want || x.Desks[(bench+1)%3].Mark != 0 || x.Desks[(bench+2)%3].Mark != 0 {
					t.Fatalf("the mark %d is %d: Turned(%+v) = %+v", mark, x.Desks[bench].Mark, m, x)
				}
				checkTurnOfRight(t, fmt.Sprint("one ", ahead, " ahead of ", mark), m)
				m.Smiths[0], m.Smiths[1], m.Desks[bench].Who = gone(), gone(), -1
				if x := impl.Turned(m); x.Desks[bench].Mark != mark {
					t.Fatalf("nobody is there, and the mark %d is %d", mark, x.Desks[bench].Mark)
				}
			}
		}
	}
}

// Who is out of the band by one is wrong in more than whose turn it is, though nobody would be when it is Turned.
func TestWhoIsOutOfTheBandIsNotTurned(t *testing.T) {
	for _, mark := range []int64{-mostMark, -5, 0, mostMark} {
		for _, ahead := range []int64{-credit - 1, lead + 1} {
			for state := int64(impl.SmWaits); state <= impl.SmWorks; state++ {
				m := smithyWith(benchHall, nil, smith(state, 1, mark+ahead, 1))
				m.Desks[1] = impl.Desk{Open: true, Mark: mark}
				checkNoTurn(t, fmt.Sprint("one ", ahead, " ahead of ", mark), m)
				m.Smiths = append(m.Smiths, smith(impl.SmWaits, 1, mark+lead, 2))
				checkNoTurn(t, fmt.Sprint("one ", ahead, " ahead of ", mark, " and another one"), m)
			}
		}
	}
}

// Every choice of benches that are Open, and one at each of these or at none.
func TestClosedBenchesAreNotIdle(t *testing.T) {
	for _, text := range []string{"1 1:1", benchHall, eightHall} {
		benches := len(emptySmithy(text).Desks)
		for set := 1; set < 1<<benches; set++ {
			m := emptySmithy(text)
			for bench := range m.Desks {
				m.Desks[bench].Open = set>>bench&1 == 1
			}
			m.Smiths = []impl.Smith{smith(impl.SmAway, int64(benches)-1, 0, 5), gone()}
			for bench := range int64(benches) {
				open := m.Desks[bench].Open
				if impl.IsIdle(m, bench) != open {
					t.Fatalf("IsIdle(%+v, %d) = %v", m, bench, impl.IsIdle(m, bench))
				}
				if !open {
					continue
				}
				x := lendSmithy(m)
				x.Smiths[1], x.Desks[bench].Who = smith(impl.SmWorks, bench, 0, 5), 1
				if impl.IsIdle(x, bench) || !impl.SmithyOk(x) || impl.Working(x)[bench] != 1 {
					t.Fatalf("IsIdle(%+v, %d) = %v", x, bench, impl.IsIdle(x, bench))
				}
				checkTurnAnswers(t, x, 0, 1, 2, 3, 4, 5, 6, 7, 8)
			}
			checkPromise12(t, m)
		}
	}
}

func TestTheOnlyBench(t *testing.T) {
	m := emptySmithy("1 1:1")
	if !impl.IsIdle(m, 0) || impl.IsIdle(m, 1) || impl.IsIdle(m, -1) || !slices.Equal(impl.Working(m), []int64{-1}) {
		t.Fatalf("%v, %v", impl.IsIdle(m, 0), impl.Working(m))
	}
	m.Smiths = []impl.Smith{smith(impl.SmWaits, 0, 4, 5), smith(impl.SmWaits, 0, 3, 5)}
	checkTurnMended(t, "two that wait at the only bench", m)
	x := impl.Turned(m)
	if impl.IsIdle(x, 0) || !slices.Equal(impl.Working(x), []int64{1}) {
		t.Fatalf("%v, %v", impl.IsIdle(x, 0), impl.Working(x))
	}
	m.Desks[0].Open = false
	checkNoTurn(t, "the only bench closed", m)
	m.Smiths = nil
	checkNoTurn(t, "the only bench closed and nobody there", m)
}

func TestIdleBenchesOutOfRange(t *testing.T) {
	for _, m := range rightSmithies() {
		last := int64(len(m.Desks)) - 1
		for _, bench := range slices.Concat(wrongPlaces, []int64{last + 1, last + 2, 8, 9}) {
			if impl.IsIdle(m, bench) {
				t.Fatalf("IsIdle(%+v, %d)", m, bench)
			}
		}
		for _, bench := range []int64{0, last} {
			if impl.IsIdle(m, bench) != (m.Desks[bench].Open && len(impl.At(m, bench)) == 0) {
				t.Fatalf("IsIdle(%+v, %d) = %v", m, bench, impl.IsIdle(m, bench))
			}
		}
	}
	for _, text := range []string{"1 1:1", "2 1:1", benchHall, eightHall} {
		m := emptySmithy(text)
		last := int64(len(m.Desks)) - 1
		if impl.IsIdle(m, -1) || !impl.IsIdle(m, 0) || !impl.IsIdle(m, last) || impl.IsIdle(m, last+1) {
			t.Fatalf("the benches of %s are not these that are idle", text)
		}
	}
}

// spoiled is something wrong, and how it comes about in the middle smithy.
type spoiled struct {
	what   string
	change func(m *impl.Smithy)
}

func spoiledSmiths() []spoiled {
	return []spoiled{
		{"thirteen smiths", func(m *impl.Smithy) { m.Smiths = append(m.Smiths, make([]impl.Smith, 8)...) }},
		{"a state of none", func(m *impl.Smithy) { m.Smiths[1].State = 4 }},
		{"a state below all", func(m *impl.Smithy) { m.Smiths[1].State = -1 }},
		{"one that is gone with something left", func(m *impl.Smithy) { m.Smiths[3].May = 1 }},
		{"no rank", func(m *impl.Smithy) { m.Smiths[1].Rank = 6 }},
		{"an empty May", func(m *impl.Smithy) { m.Smiths[2].May = 0 }},
		{"a May of no set", func(m *impl.Smithy) { m.Smiths[1].May = 256 }},
		{"a guild that is not there", func(m *impl.Smithy) { m.Smiths[1].Guild = 1 }},
		{"a guild that is not there of one that is away", func(m *impl.Smithy) { m.Smiths[2].Guild = 1 }},
		{"Low above High", func(m *impl.Smithy) { m.Smiths[1].Low = 1001 }},
		{"High above all", func(m *impl.Smithy) { m.Smiths[1].High = 1025 }},
		{"Had above all of one that is away", func(m *impl.Smithy) { m.Smiths[2].Had = mostHad + 1 }},
		{"Carry as much as the weight", func(m *impl.Smithy) { m.Smiths[1].Carry = 1280 }},
		{"Util above all", func(m *impl.Smithy) { m.Smiths[1].Util = 1025 }},
		{"Work above all", func(m *impl.Smithy) { m.Smiths[1].Work = mostWork + 1 }},
		{"Work below 0", func(m *impl.Smithy) { m.Smiths[1].Work = -1 }},
	}
}

func spoiledParts() []spoiled {
	return []spoiled{
		{"no rooms", func(m *impl.Smithy) { m.Hall.Rooms = nil }},
		{"empty rooms", func(m *impl.Smithy) { m.Hall.Rooms = m.Hall.Rooms[:0] }},
		{"a room too few", func(m *impl.Smithy) { m.Hall.Rooms = m.Hall.Rooms[:1] }},
		{"a bench too many", func(m *impl.Smithy) { m.Hall.Rooms[0].Benches = 3 }},
		{"a room of no benches", func(m *impl.Smithy) { m.Hall.Rooms[1].Benches = 0 }},
		{"a room of no paces", func(m *impl.Smithy) { m.Hall.Rooms[1].Paces = nil }},
		{"a room of empty paces", func(m *impl.Smithy) { m.Hall.Rooms[1].Paces = m.Hall.Rooms[1].Paces[:0] }},
		{"a pace that does not rise", func(m *impl.Smithy) { m.Hall.Rooms[0].Paces[1].Coal = 1 }},
		{"no guilds", func(m *impl.Smithy) { m.Guilds = nil }},
		{"empty guilds", func(m *impl.Smithy) { m.Guilds = m.Guilds[:0] }},
		{"a guild above itself", func(m *impl.Smithy) { m.Guilds[0].Above = 0 }},
		{"a guild that is Low above High", func(m *impl.Smithy) { m.Guilds[0].Low = 501 }},
		{"seven guilds", func(m *impl.Smithy) { m.Guilds = slices.Repeat(m.Guilds, 7) }},
		{"no desks", func(m *impl.Smithy) { m.Desks = nil }},
		{"empty desks", func(m *impl.Smithy) { m.Desks = m.Desks[:0] }},
		{"a desk too few", func(m *impl.Smithy) { m.Desks, m.Smiths[2].Bench, m.Smiths[4] = m.Desks[:2], 0, gone() }},
		{"a desk too many", func(m *impl.Smithy) { m.Desks = append(m.Desks, impl.Desk{Open: true, Who: -1}) }},
		{"a mark above all", func(m *impl.Smithy) { m.Desks[1].Mark = mostMark + 1 }},
		{"a mark below all", func(m *impl.Smithy) { m.Desks[1].Mark = -mostMark - 1 }},
		{"no paces", func(m *impl.Smithy) { m.Paces = nil }},
		{"empty paces", func(m *impl.Smithy) { m.Paces = m.Paces[:0] }},
		{"a pace too few", func(m *impl.Smithy) { m.Paces = m.Paces[:1] }},
		{"a pace too many", func(m *impl.Smithy) { m.Paces = append(m.Paces, 0) }},
		{"a pace that is not there", func(m *impl.Smithy) { m.Paces[1] = 2 }},
		{"a pace below 0", func(m *impl.Smithy) { m.Paces[0] = -1 }},
		{"a Now above all", func(m *impl.Smithy) { m.Now = mostNow + 1 }},
		{"a Now below 0", func(m *impl.Smithy) { m.Now = -1 }},
	}
}

func spoiledPlaces() []spoiled {
	return []spoiled{
		{"no bench open", func(m *impl.Smithy) { m.Desks[0].Open, m.Desks[2].Open = false, false }},
		{"no bench open and nobody there", func(m *impl.Smithy) {
			m.Desks[0] = impl.Desk{Who: -1}
			m.Desks[2], m.Smiths = m.Desks[0], nil
		}},
		{"who works at a bench that is closed", func(m *impl.Smithy) { m.Desks[2].Open = false }},
		{"who waits at a bench that is closed", func(m *impl.Smithy) { m.Smiths[1].Bench, m.Smiths[1].May, m.Smiths[1].Had = 1, 7, 0 }},
		{"who works in no May", func(m *impl.Smithy) { m.Smiths[4].May = 3 }},
		{"who waits in no May", func(m *impl.Smithy) { m.Smiths[1].May = 6 }},
		{"who works behind the band", func(m *impl.Smithy) { m.Smiths[0].Had = m.Desks[0].Mark - credit - 1 }},
		{"who works ahead of the band", func(m *impl.Smithy) { m.Smiths[0].Had = m.Desks[0].Mark + lead + 1 }},
		{"who waits behind the band", func(m *impl.Smithy) { m.Smiths[1].Had = m.Desks[0].Mark - credit - 1 }},
		{"who waits ahead of the band", func(m *impl.Smithy) { m.Smiths[1].Had = m.Desks[0].Mark + lead + 1 }},
		{"who works one past the last bench", func(m *impl.Smithy) { m.Smiths[4].Bench, m.Smiths[4].May = 3, 255 }},
		{"who waits one past the last bench", func(m *impl.Smithy) { m.Smiths[1].Bench, m.Smiths[1].May = 3, 255 }},
		{"who is away one past the last bench", func(m *impl.Smithy) { m.Smiths[2].Bench = 3 }},
	}
}

// withListsDropped goes through what has nothing at all, and smithies of one who is away which lack a list that there must
// be, nil or empty.
func withListsDropped(yield func(what string, m impl.Smithy) bool) {
	if !yield("nothing at all", impl.Smithy{}) || !yield("nothing at all but empty lists", impl.Smithy{Hall: impl.Hall{Rooms: []impl.Room{}}, Guilds: []impl.Guild{}, Smiths: []impl.Smith{}, Desks: []impl.Desk{}, Paces: []int64{}}) {
		return
	}
	for _, text := range []string{"1 1:1", benchHall, eightHall} {
		for i, drop := range []func(m *impl.Smithy){
			func(m *impl.Smithy) { m.Hall.Rooms = nil }, func(m *impl.Smithy) { m.Hall.Rooms = m.Hall.Rooms[:0] },
			func(m *impl.Smithy) { m.Hall.Rooms[0].Paces = nil }, func(m *impl.Smithy) { m.Hall.Rooms[0].Paces = []impl.Pace{} },
			func(m *impl.Smithy) { m.Desks = nil }, func(m *impl.Smithy) { m.Desks = m.Desks[:0] },
			func(m *impl.Smithy) { m.Paces = nil }, func(m *impl.Smithy) { m.Paces = m.Paces[:0] },
		} {
			m := lendSmithy(smithyWith(text, nil, smith(impl.SmAway, 0, 0, 0)))
			drop(&m)
			if !yield(fmt.Sprint("list ", i, " dropped"), m) {
				return
			}
		}
	}
}

// wrongSmithies goes through each part that chapter 11 names, wrong one at a time, and all that may be wrong in whose
// turn it is.
func wrongSmithies(yield func(what string, m impl.Smithy) bool) {
	list := slices.Concat(spoiledParts(), spoiledSmiths(), spoiledPlaces(), spoiledTurns())
	for _, r := range wrongRooms() {
		for room := range 2 {
			list = append(list, spoiled{"a wrong room", func(m *impl.Smithy) { m.Hall.Rooms[room] = r }})
		}
	}
	for bench, d := range middleSmithy().Desks {
		for _, who := range manyWhos {
			if who != d.Who {
				list = append(list, spoiled{fmt.Sprint(who, " as Who of ", bench), func(m *impl.Smithy) { m.Desks[bench].Who = who }})
			}
		}
	}
	for _, k := range list {
		m := lendSmithy(middleSmithy())
		k.change(&m)
		if !yield(k.what, m) {
			return
		}
	}
}

// Each part that chapter 11 names, wrong one at a time, where turns are right and where they are not.
func TestWhatIsWrongElsewhereIsNotTurned(t *testing.T) {
	nobodyCalled := lendSmithy(middleSmithy())
	nobodyCalled.Smiths[0].State, nobodyCalled.Desks[0].Who = impl.SmWaits, math.MaxInt64
	for _, from := range []impl.Smithy{middleSmithy(), nobodyCalled, impl.Turned(middleSmithy())} {
		for _, k := range slices.Concat(spoiledParts(), spoiledSmiths(), spoiledPlaces()) {
			m := lendSmithy(from)
			k.change(&m)
			checkNoTurn(t, k.what, m)
		}
	}
	for _, r := range wrongRooms() {
		m := lendSmithy(middleSmithy())
		m.Hall.Rooms[0] = r
		checkNoTurn(t, "a wrong room", m)
	}
}

// Limits that are met exactly are Turned.
func TestWhatMeetsItsLimitsIsTurned(t *testing.T) {
	for i, change := range []func(m *impl.Smithy){
		func(m *impl.Smithy) { m.Now = 0 },
		func(m *impl.Smithy) { m.Now = mostNow },
		func(m *impl.Smithy) { m.Smiths = append(m.Smiths, make([]impl.Smith, 7)...) },
		func(m *impl.Smithy) { m.Guilds = slices.Repeat(m.Guilds, 6) },
		func(m *impl.Smithy) { m.Paces = []int64{1, 1} },
		func(m *impl.Smithy) { m.Desks[1].Mark = mostMark },
		func(m *impl.Smithy) { m.Desks[1].Mark = -mostMark },
		func(m *impl.Smithy) { m.Smiths[1].Work, m.Smiths[1].Util, m.Smiths[1].Carry = mostWork, 1024, 1279 },
		func(m *impl.Smithy) { m.Smiths[0].Had = 200 + lead },
		func(m *impl.Smithy) { m.Smiths[0].Had = 200 - credit },
		func(m *impl.Smithy) { m.Smiths[2].Had, m.Smiths[2].Bench = leastHad, 1 },
		func(m *impl.Smithy) { m.Smiths[2].Had = mostHad },
	} {
		m := lendSmithy(middleSmithy())
		change(&m)
		checkTurnOfRight(t, fmt.Sprint("limit ", i), m)
		m.Smiths[0].State = impl.SmWaits
		checkTurnMended(t, fmt.Sprint("limit ", i, " and nobody that works"), m)
	}
}

// The least and the greatest int64, and others that are right nowhere, in each number of each part and in all of them.
// As a Who they are wrong in whose turn it is, and in nothing else.
func TestTurnsOfWrongNumbersInEveryPart(t *testing.T) {
	for _, right := range []impl.Smithy{middleSmithy(), fullSmithy()} {
		for i := range numbersOf(&right) {
			for _, n := range wrongInAnyField {
				m := lendSmithy(right)
				number := numbersOf(&m)[i]
				*number.at = n
				what := fmt.Sprint(n, " as ", number.name)
				if !strings.HasPrefix(number.name, "Who of desk") {
					checkNoTurn(t, what, m)
					continue
				}
				checkTurnMended(t, what, m)
				if !sameSmithy(impl.Turned(m), impl.Turned(right)) {
					t.Fatalf("Turned with %s = %+v", what, impl.Turned(m))
				}
			}
		}
		for _, n := range wrongInAnyField {
			m := lendSmithy(right)
			for _, number := range numbersOf(&m) {
				*number.at = n
			}
			checkNoTurn(t, fmt.Sprint(n, " everywhere"), m)
		}
	}
}

func TestTurnsOfEveryNumberALittleOff(t *testing.T) {
	others := []int64{-mostMark - 1, -mostMark, -20001, -6, -2, -1, 0, 1, 2, 3, 4, 7, 8, 12, 13, 255, 256, 1024, 1025, 63001, mostNow + 1, mostMark, mostMark + 1}
	for _, right := range []impl.Smithy{middleSmithy(), fullSmithy()} {
		for i, number := range numbersOf(&right) {
			tries := slices.Clone(others)
			for off := int64(-2); off <= 2; off++ {
				tries = append(tries, *number.at+off)
			}
			for _, n := range tries {
				m := lendSmithy(right)
				*numbersOf(&m)[i].at = n
				checkTurnAnswers(t, m, -1, 0, 1, 2, 3, 7, 8)
				if wantAllInPlace(m) {
					checkPromise12(t, m)
				}
			}
		}
	}
}

func TestTurnsOfEmptyAndNilLists(t *testing.T) {
	checkNoTurn(t, "nothing at all", impl.Smithy{})
	checkNoTurn(t, "nothing at all but empty lists", impl.Smithy{Hall: impl.Hall{Rooms: []impl.Room{}}, Guilds: []impl.Guild{}, Smiths: []impl.Smith{}, Desks: []impl.Desk{}, Paces: []int64{}})
	for _, text := range []string{"1 1:1", benchHall, eightHall} {
		m := emptySmithy(text)
		m.Guilds, m.Smiths = nil, nil
		checkTurnOfRight(t, "no guilds and no smiths", m)
		m.Desks[0].Who = 0
		checkTurnMended(t, "no smiths, and a Who", m)
	}
}

// What is written to one answer, in all of its lists, is seen in no other one and in no argument.
func TestTurnedIsNewMemory(t *testing.T) {
	nobodyCalled := lendSmithy(middleSmithy())
	nobodyCalled.Smiths[0].State = impl.SmWaits
	for _, m := range append(rightSmithies(), nobodyCalled) {
		lent := lendSmithy(m)
		before := toTheBrim(lent)
		x, other, want := impl.Turned(lent), impl.Turned(lent), wantTurned(m)
		checkNoneShared(t, lent, x, other)
		for _, n := range numbersOf(&x) {
			*n.at = -77
		}
		for bench := range x.Desks {
			x.Desks[bench].Open = !x.Desks[bench].Open
		}
		if !reflect.DeepEqual(toTheBrim(lent), before) || !sameSmithy(other, want) || !sameSmithy(impl.Turned(lent), want) {
			t.Fatalf("what was written to Turned(%+v) is seen elsewhere", m)
		}
		for _, n := range numbersOf(&lent) {
			*n.at = -78
		}
		if !sameSmithy(other, want) {
			t.Fatalf("what was written to %+v is seen in what was Turned", m)
		}
	}
}

// Rooms that have one list of Paces between them have one each when they are Turned.
func TestTurnedSharesNoPaces(t *testing.T) {
	m := emptySmithy("1 1:1 2:2/2 1:1 2:2/1 1:1 2:2")
	for i := range m.Hall.Rooms {
		m.Hall.Rooms[i].Paces = m.Hall.Rooms[0].Paces
	}
	checkNoneShared(t, impl.Turned(m))
	if !sameSmithy(impl.Turned(m), m) {
		t.Fatalf("Turned(%+v) = %+v", m, impl.Turned(m))
	}
}

func TestWorkingIsNewMemory(t *testing.T) {
	for _, m := range append(rightSmithies(), impl.Smithy{}) {
		before := toTheBrim(m)
		list, other := impl.Working(m), impl.Working(m)
		checkNoneShared(t, m, list, other)
		all := list[:cap(list)]
		for i := range all {
			all[i] = -79
		}
		if !reflect.DeepEqual(toTheBrim(m), before) || !slices.Equal(other, wantWorking(m)) || !slices.Equal(impl.Working(m), other) {
			t.Fatalf("what was written to Working(%+v) is seen elsewhere", before)
		}
	}
}

// Every smithy of two benches and of two smiths in all states, held against a reckoning.
func TestSmallSmithiesTurned(t *testing.T) {
	kinds := []impl.Smith{gone()}
	for state := int64(impl.SmAway); state <= impl.SmWorks; state++ {
		for bench := range int64(3) {
			for _, had := range []int64{-1, 0, 20} {
				s := smith(state, bench, had, 5)
				s.May = 1<<bench | 1
				kinds = append(kinds, s)
			}
		}
	}
	desks := []impl.Desk{}
	for who := int64(-1); who <= 2; who++ {
		desks = append(desks, impl.Desk{Open: true, Who: who}, impl.Desk{Who: who}, impl.Desk{Open: true, Who: who, Mark: 20000})
	}
	right, mended := 0, 0
	m := emptySmithy("1 1:1/1 2:2")
	m.Smiths = make([]impl.Smith, 2)
	for _, m.Smiths[0] = range kinds {
		for _, m.Smiths[1] = range kinds {
			for _, m.Desks[0] = range desks {
				for _, m.Desks[1] = range desks {
					checkTurnAnswers(t, m, -1, 0, 1, 2)
					switch {
					case wantSmithyOk(m):
						right++
					case wantAllInPlace(m):
						mended++
					}
				}
			}
		}
	}
	if right < 500 || mended < 5000 {
		t.Fatalf("only %d of them are right, and %d but for whose turn it is", right, mended)
	}
}
