package tests

import (
	"fmt"
	"math"
	"reflect"
	"slices"
	"testing"

	"loop.example/g00553/impl"
)

// wantForce takes the greatest Force of all Paces of the room.
func wantForce(m impl.Smithy, bench int64) int64 {
	force := int64(0)
	for _, p := range m.Hall.Rooms[wantRooms(m.Hall)[bench]].Paces {
		force = max(force, p.Force)
	}
	return force
}

// wantButBy is what is used at a bench but by who.
func wantButBy(m impl.Smithy, used []int64, who, bench int64) int64 {
	if s := m.Smiths[who]; s.State >= 2 && s.Bench == bench {
		return used[bench] - wantWant(m, s)
	}
	return used[bench]
}

// wantMayWork has nothing for used where the smithy is not right, and so no bench.
func wantMayWork(m impl.Smithy, used []int64, who, bench int64) bool {
	if !isFrom(bench, 0, int64(len(used))-1) || !isFrom(who, 0, int64(len(m.Smiths))-1) {
		return false
	}
	return m.Desks[bench].Open && slices.Contains(wantMembers(m.Smiths[who].May), bench)
}

func wantFitting(m impl.Smithy, used []int64, who int64) []int64 {
	list := []int64{}
	for bench := range int64(len(used)) {
		if wantMayWork(m, used, who, bench) && wantFitsIn(wantWant(m, m.Smiths[who]), wantButBy(m, used, who, bench), wantForce(m, bench)) {
			list = append(list, bench)
		}
	}
	return list
}

func wantCrowded(m impl.Smithy, used []int64) bool {
	for bench, n := range used {
		if m.Desks[bench].Open && wantTooMuch(n, wantForce(m, int64(bench))) {
			return true
		}
	}
	return false
}

// wantChosen lays down for each bench what comes first in the choice, then what comes next, and sorts; the program goes
// through them once.
func wantChosen(m impl.Smithy, used []int64, who int64) int64 {
	rows := [][]int64{}
	if fitting := wantFitting(m, used, who); len(fitting) > 0 && !wantCrowded(m, used) {
		for _, bench := range fitting {
			other := int64(1)
			if bench == m.Smiths[who].Bench {
				other = 0
			}
			rows = append(rows, []int64{wantCoalWith(m, used, who, bench), other, bench})
		}
	} else {
		for bench := range int64(len(used)) {
			if wantMayWork(m, used, who, bench) {
				rows = append(rows, []int64{-wantSpareOf(wantButBy(m, used, who, bench), wantForce(m, bench)), bench})
			}
		}
	}
	if len(rows) == 0 {
		return -1
	}
	first := slices.MinFunc(rows, slices.Compare[[]int64])
	return first[len(first)-1]
}

// checkChoiceAnswers holds all of the chapter against a reckoning, of any smithy at all.
func checkChoiceAnswers(t *testing.T, m impl.Smithy, whos, benches []int64) {
	t.Helper()
	used := wantUsed(m)
	if got, want := impl.Crowded(m), wantCrowded(m, used); got != want {
		t.Fatalf("Crowded(%+v) = %v", m, got)
	}
	for _, who := range whos {
		if got, want := impl.Fitting(m, who), wantFitting(m, used, who); !slices.Equal(got, want) {
			t.Fatalf("Fitting(%+v, %d) = %v, not %v", m, who, got, want)
		}
		if got, want := impl.Chosen(m, who), wantChosen(m, used, who); got != want {
			t.Fatalf("Chosen(%+v, %d) = %d, not %d", m, who, got, want)
		}
		for _, bench := range benches {
			if got, want := impl.MayWork(m, who, bench), wantMayWork(m, used, who, bench); got != want {
				t.Fatalf("MayWork(%+v, %d, %d) = %v", m, who, bench, got)
			}
		}
	}
}

// checkChoice asks all of it as it is and as it is lent, and watches all memory.
func checkChoice(t *testing.T, m impl.Smithy) {
	t.Helper()
	for _, given := range []impl.Smithy{m, lendSmithy(m)} {
		before := toTheBrim(given)
		checkChoiceAnswers(t, given, upTo(len(m.Smiths)), upTo(len(m.Desks)))
		for _, who := range upTo(len(m.Smiths)) {
			checkNoneShared(t, given, impl.Fitting(given, who), impl.Fitting(given, who))
		}
		if after := toTheBrim(given); !reflect.DeepEqual(after, before) {
			t.Fatalf("%+v became %+v", before, after)
		}
	}
}

// restingThere is a smithy that is right, in which who is away, whatever it was; so nothing is used by it.
func restingThere(t *testing.T, m impl.Smithy, who int64) impl.Smithy {
	t.Helper()
	x := lendSmithy(m)
	x.Smiths[who].State = impl.SmAway
	x = impl.Turned(x)
	if !impl.SmithyOk(x) {
		t.Fatalf("%d can't be away: %+v", who, x)
	}
	return x
}

// checkWhereOneFits asks that who is Fitting just where it may work and is not too much once it is really there.
func checkWhereOneFits(t *testing.T, m impl.Smithy, who int64) {
	t.Helper()
	fitting := []int64{}
	for bench := range int64(len(m.Desks)) {
		may := m.Desks[bench].Open && impl.InSet(m.Smiths[who].May, bench)
		if impl.MayWork(m, who, bench) != may {
			t.Fatalf("MayWork(%+v, %d, %d) = %v", m, who, bench, !may)
		}
		if may && !impl.TooMuch(impl.UsedAt(putThere(t, m, who, bench), bench), impl.ForceOf(m.Hall, bench)) {
			fitting = append(fitting, bench)
		}
	}
	if got := impl.Fitting(m, who); !slices.Equal(got, fitting) {
		t.Fatalf("Fitting(%+v, %d) = %v, and it is not too much at %v", m, who, got, fitting)
	}
}

// checkNoneCostsLess is the first half of the promise, for one where the smithy is not Crowded and some are Fitting.
func checkNoneCostsLess(t *testing.T, m impl.Smithy, who int64) {
	t.Helper()
	chosen, fitting, own := impl.Chosen(m, who), impl.Fitting(m, who), m.Smiths[who].Bench
	if !slices.Contains(fitting, chosen) {
		t.Fatalf("Chosen(%+v, %d) = %d, and Fitting are %v", m, who, chosen, fitting)
	}
	coal := impl.CoalOf(putThere(t, m, who, chosen))
	for _, bench := range fitting {
		other := impl.CoalOf(putThere(t, m, who, bench))
		if other < coal || other == coal && chosen != own && (bench == own || bench < chosen) {
			t.Fatalf("Chosen(%+v, %d) = %d, which costs %d, and %d costs %d", m, who, chosen, coal, bench, other)
		}
	}
}

// checkNoneHasMoreToSpare is the other half, for all other cases.
func checkNoneHasMoreToSpare(t *testing.T, m impl.Smithy, who int64) {
	t.Helper()
	chosen, without := impl.Chosen(m, who), restingThere(t, m, who)
	if chosen == -1 {
		for bench := range int64(len(m.Desks)) {
			if impl.MayWork(m, who, bench) {
				t.Fatalf("Chosen(%+v, %d) = -1, and it may work at %d", m, who, bench)
			}
		}
		return
	}
	if !impl.MayWork(m, who, chosen) {
		t.Fatalf("Chosen(%+v, %d) = %d, where it may not work", m, who, chosen)
	}
	spare := impl.SpareOf(impl.UsedAt(without, chosen), impl.ForceOf(m.Hall, chosen))
	for bench := range int64(len(m.Desks)) {
		other := impl.SpareOf(impl.UsedAt(without, bench), impl.ForceOf(m.Hall, bench))
		if impl.MayWork(m, who, bench) && (other > spare || other == spare && bench < chosen) {
			t.Fatalf("Chosen(%+v, %d) = %d, which has %d to spare, and %d has %d", m, who, chosen, spare, bench, other)
		}
	}
}

// checkPromise14 is the promise by its words, of a smithy that is right.
func checkPromise14(t *testing.T, m impl.Smithy) {
	t.Helper()
	crowded := false
	for bench, d := range m.Desks {
		crowded = crowded || d.Open && impl.TooMuch(impl.UsedAt(m, int64(bench)), impl.ForceOf(m.Hall, int64(bench)))
	}
	if impl.Crowded(m) != crowded {
		t.Fatalf("Crowded(%+v) = %v", m, !crowded)
	}
	for who, s := range m.Smiths {
		if s.State == impl.SmGone {
			checkNoneFor(t, "one that is gone", m, int64(who))
			continue
		}
		checkWhereOneFits(t, m, int64(who))
		if !crowded && len(impl.Fitting(m, int64(who))) > 0 {
			checkNoneCostsLess(t, m, int64(who))
		} else {
			checkNoneHasMoreToSpare(t, m, int64(who))
		}
	}
}

// checkNoneFor asks for the answers of one who is not there, or has no bench.
func checkNoneFor(t *testing.T, what string, m impl.Smithy, who int64) {
	t.Helper()
	if list, chosen := impl.Fitting(m, who), impl.Chosen(m, who); len(list) != 0 || chosen != -1 {
		t.Fatalf("%s: Fitting %d is %v and Chosen %d: %+v", what, who, list, chosen, m)
	}
	for _, bench := range slices.Concat(upTo(8), wrongPlaces) {
		if impl.MayWork(m, who, bench) {
			t.Fatalf("%s: %d may work at %d: %+v", what, who, bench, m)
		}
	}
}

func checkChoiceOfRight(t *testing.T, what string, m impl.Smithy) {
	t.Helper()
	if !impl.SmithyOk(m) {
		t.Fatalf("not SmithyOk with %s: %+v", what, m)
	}
	checkChoice(t, m)
	checkPromise14(t, m)
}

// checkNoChoice asks for the answers that the chapter names for a smithy that is not right.
func checkNoChoice(t *testing.T, what string, m impl.Smithy) {
	t.Helper()
	lent := lendSmithy(m)
	before := toTheBrim(lent)
	if impl.SmithyOk(lent) || impl.Crowded(lent) {
		t.Fatalf("SmithyOk or Crowded with %s: %+v", what, m)
	}
	for _, who := range upTo(mostSmiths) {
		checkNoneFor(t, what, lent, who)
	}
	if after := toTheBrim(lent); !reflect.DeepEqual(after, before) {
		t.Fatalf("%+v became %+v", before, after)
	}
}

// checkChosen asks for all that the chapter answers of one, written out.
func checkChosen(t *testing.T, what string, m impl.Smithy, who int64, crowded bool, chosen int64, fitting ...int64) {
	t.Helper()
	if got := impl.Crowded(m); got != crowded {
		t.Errorf("%s: Crowded is %v", what, got)
	}
	if got := impl.Fitting(m, who); !slices.Equal(got, fitting) {
		t.Errorf("%s: Fitting is %v, not %v", what, got, fitting)
	}
	if got := impl.Chosen(m, who); got != chosen {
		t.Errorf("%s: Chosen is %d, not %d", what, got, chosen)
	}
	if impl.SmithyOk(m) {
		checkChoiceOfRight(t, what, m)
	} else {
		checkNoChoice(t, what, m)
	}
}

// withMay is that smithy with another May for one.
func withMay(m impl.Smithy, who, may int64) impl.Smithy {
	m.Smiths = slices.Clone(m.Smiths)
	m.Smiths[who].May = may
	return m
}

func TestChoiceCases(t *testing.T) {
	empty := smithyWith(dearHall, nil, smith(impl.SmAway, 1, 0, 100))
	cases := []struct {
		what    string
		m       impl.Smithy
		who     int64
		crowded bool
		chosen  int64
		fitting []int64
	}{
		{"who works", dearSmithy(), 0, false, 2, []int64{0, 1, 2}},
		{"who works alone", dearSmithy(), 1, false, 2, []int64{1, 2}},
		{"who waits", dearSmithy(), 2, false, 2, []int64{0, 1, 2}},
		{"who is away", dearSmithy(), 3, false, 2, []int64{2}},
		{"who is gone", dearSmithy(), 4, false, -1, nil},
		{"one past the last one", dearSmithy(), 5, false, -1, nil},
		{"one ahead of the first one", dearSmithy(), -1, false, -1, nil},
		{"one who may not work in the cheap room", withMay(dearSmithy(), 0, 3), 0, false, 0, []int64{0, 1}},
		{"one who may work where it is alone", withMay(dearSmithy(), 0, 1), 0, false, 0, []int64{0}},
		{"one who fits in none, where it may work", withMay(dearSmithy(), 3, 3), 3, false, 0, nil},
		{"one who may work at no bench there is", withMay(dearSmithy(), 3, 248), 3, false, -1, nil},
		{"one who works in a crowd", fullSmithy(), 0, true, 6, []int64{6}},
		{"one who waits in a crowd and may work there alone", fullSmithy(), 1, true, 0, nil},
		{"one who is away and wants nothing, in a crowd", fullSmithy(), 3, true, 1, []int64{1}},
		{"one who works alone at a bench with too much", fullSmithy(), 6, true, 4, nil},
		{"one who is away from a closed bench, in a crowd", fullSmithy(), 7, true, 6, []int64{6}},
		{"nobody else", empty, 0, false, 2, []int64{0, 1, 2}},
		{"nobody else and half of the benches", withMay(empty, 0, 3), 0, false, 1, []int64{0, 1}},
		{"nobody else and one bench", withMay(empty, 0, 1), 0, false, 0, []int64{0}},
		{"nobody", emptySmithy(dearHall), 0, false, -1, nil},
	}
	for _, k := range cases {
		checkChosen(t, k.what, k.m, k.who, k.crowded, k.chosen, k.fitting...)
	}
}

func TestTheLeastCoalIsChosen(t *testing.T) {
	for i, m := range rightSmithies() {
		checkChoiceOfRight(t, fmt.Sprint("nothing wrong, smithy ", i), m)
	}
	for _, h := range rightHalls(t) {
		m, _ := impl.NewSmithy(h)
		checkChoiceOfRight(t, "nothing but a hall", m)
		if impl.Crowded(m) {
			t.Fatalf("Crowded(%+v)", m)
		}
		for bench := range m.Desks {
			m.Smiths = append(m.Smiths[:0:0], smith(impl.SmAway, int64(bench), 0, 1), smith(impl.SmAway, int64(bench), 0, 400))
			checkChoiceOfRight(t, "nothing but a hall and two that are away", m)
		}
	}
}

// eased lets all want so little that few benches have too much.
func eased(l *lots, m impl.Smithy, most int) impl.Smithy {
	x := lendSmithy(m)
	for who := range x.Smiths {
		if s := &x.Smiths[who]; s.State != impl.SmGone {
			s.Guild, s.Low, s.Util = oneOf[int64](l, -1, 2), l.below(2), l.below(most)
		}
	}
	return x
}

// tally counts what kinds of choices there were.
type tally struct{ own, first, later, dearer, fittingInACrowd, noneFits, nowhere, spareLater int }

func (c *tally) count(m impl.Smithy, who int64) {
	used := wantUsed(m)
	fitting, chosen, own := impl.Fitting(m, who), impl.Chosen(m, who), m.Smiths[who].Bench
	switch {
	case chosen == -1:
		c.nowhere++
	case impl.Crowded(m) && len(fitting) > 0:
		c.fittingInACrowd++
	case len(fitting) == 0 && !impl.Crowded(m):
		c.noneFits++
	case len(fitting) == 0 && chosen > 0:
		c.spareLater++
	case len(fitting) > 1 && chosen == own && own != fitting[0]:
		c.own++
	case len(fitting) > 1 && chosen == fitting[0]:
		c.first++
	case len(fitting) > 1:
		c.later++
	}
	if slices.Contains(fitting, own) && chosen != own && wantCoalWith(m, used, who, own) > wantCoalWith(m, used, who, chosen) {
		c.dearer++
	}
}

// Every hall from one bench to eight, with none to twelve smiths of all states, ranks, guilds, bounds, Utils and Mays.
func TestManySmithiesChoose(t *testing.T) {
	l, c := lots(14), tally{}
	for _, h := range rightHalls(t) {
		for count := range mostSmiths + 1 {
			m := withTurns(&l, drawnSmithy(&l, h, count))
			for _, x := range []impl.Smithy{m, eased(&l, m, 300), eased(&l, m, 90), eased(&l, m, 12)} {
				checkChoiceOfRight(t, "what was drawn", x)
				for who, s := range x.Smiths {
					if s.State != impl.SmGone {
						c.count(x, int64(who))
					}
				}
			}
		}
	}
	if c.own < 200 || c.first < 200 || c.later < 200 || c.dearer < 100 || c.fittingInACrowd < 200 || c.noneFits < 50 || c.nowhere < 200 || c.spareLater < 200 {
		t.Fatalf("too few of some choice: %+v", c)
	}
}

// What one wants more by one, or what another one wants more by one, and it does not fit any more.
func TestWhoFitsJustIn(t *testing.T) {
	for _, force := range []int64{1, 2, 4, 5, 6, 7, 100, 299, 300, 301, 512, 1023, 1024} {
		most := greatestNeed(impl.Pace{Force: force})
		for _, used := range []int64{0, 1, most / 2, most - 1, most} {
			if !isFrom(used, 0, most) {
				continue
			}
			for state := int64(impl.SmAway); state <= impl.SmWaits; state++ {
				for _, at := range []int64{0, 1, 2} {
					checkJustFits(t, force, used, most-used, state, at)
				}
			}
		}
	}
}

// checkJustFits has a bench 1 of that force, with others that use so much of it; who wants just what is left.
func checkJustFits(t *testing.T, force, used, left, state, at int64) {
	t.Helper()
	text := fmt.Sprintf("1 1:1/1 %d:5/1 1024:9", force)
	for more := range int64(2) {
		for whose := range int64(2) {
			who, other := smith(state, at, 0, left), smith(impl.SmWorks, 1, 0, used)
			if whose == 0 {
				who.Util += more
			} else {
				other.Util += more
			}
			m := smithyWith(text, nil, who, other, smith(impl.SmWorks, 0, 0, 0), smith(impl.SmWorks, 2, 0, 0))
			if got := slices.Contains(impl.Fitting(m, 0), 1); got != (more == 0) {
				t.Fatalf("%d in state %d at %d: Fitting(%+v, 0) = %v", left, state, at, m, impl.Fitting(m, 0))
			}
			checkChoiceAnswers(t, m, upTo(4), upTo(3))
			checkPromise14(t, m)
		}
	}
}

// Each bench has just as much as is not too much, and one of them one more; by one alone, and by several together.
func TestCrowdedByOneMore(t *testing.T) {
	for _, text := range []string{"1 1:1", "1 5:1", "1 1024:1", "4 300:2", benchHall, eightHall, "1 5:3/1 6:9/1 7:27"} {
		m := emptySmithy(text)
		for bench := range int64(len(m.Desks)) {
			m.Desks[bench].Who = bench
			m.Smiths = append(m.Smiths, smith(impl.SmWorks, bench, 0, greatestNeed(impl.Pace{Force: wantForce(m, bench)})))
		}
		checkChoiceOfRight(t, "as much as is not too much", m)
		if impl.Crowded(m) {
			t.Fatalf("Crowded(%+v)", m)
		}
		for bench := range int64(len(m.Desks)) {
			one, two := lendSmithy(m), lendSmithy(m)
			one.Smiths[bench].Util++
			two.Smiths = append(two.Smiths, smith(impl.SmWaits, bench, 0, 1), smith(impl.SmAway, bench, 0, 1024), gone())
			for _, x := range []impl.Smithy{one, two} {
				checkChoiceOfRight(t, "one more", x)
				if !impl.Crowded(x) {
					t.Fatalf("not Crowded(%+v)", x)
				}
			}
			two.Smiths[len(m.Smiths)].Util = 0
			if impl.Crowded(two) {
				t.Fatalf("Crowded(%+v)", two)
			}
		}
	}
}

// A bench that a Pace of its room is enough for has the Force of the last one, whichever Pace the room has now.
func TestCrowdedByTheLastPaceOfTheRoom(t *testing.T) {
	for pace := range int64(4) {
		m := smithyWith(eightHall, nil, smith(impl.SmWorks, 5, 0, 640), smith(impl.SmAway, 5, 0, 640))
		m.Paces[1] = pace
		checkChosen(t, "one who fits in by the last Pace alone", m, 1, false, 7, 4, 6, 7)
		m.Smiths[0].Util++
		checkChosen(t, "one more than the last Pace is enough for", m, 1, true, 7, 4, 6, 7)
	}
}

// What one wants itself does not count where it is, whether it works or waits; what all others there want does.
func TestWhatOneWantsItselfDoesNotCount(t *testing.T) {
	alone := smithyWith(dearHall, nil, smith(impl.SmWorks, 1, 0, 320))
	checkChosen(t, "who works and just fits in alone", withMay(alone, 0, 3), 0, false, 1, 0, 1)
	alone.Smiths[0].Util = 321
	checkChosen(t, "who is too much itself", withMay(alone, 0, 3), 0, true, 0)
	checkChosen(t, "who is too much itself, with a strong bench", alone, 0, true, 2, 2)
	alone.Smiths[0].Util = 1024
	checkChosen(t, "who is too much anywhere", alone, 0, true, 2)
	checkChosen(t, "who is too much where it must be", withMay(alone, 0, 2), 0, true, 1)
	two := smithyWith(dearHall, nil, smith(impl.SmWorks, 1, 0, 120), smith(impl.SmWaits, 1, 0, 200))
	for who := range int64(2) {
		checkChosen(t, "one of two that fill a bench", withMay(two, who, 3), who, false, 1, 0, 1)
		x := withMay(two, who, 3)
		x.Smiths[1-who].Util++
		checkChosen(t, "one of two that are too much", x, who, true, 0, 0)
	}
	two = smithyWith(dearHall, nil, smith(impl.SmWorks, 1, 0, 121), smith(impl.SmWaits, 1, 0, 200), smith(impl.SmWorks, 0, 0, 121))
	checkChosen(t, "as much to spare elsewhere but by itself", withMay(two, 1, 3), 1, true, 0)
	two.Smiths[2].Util++
	checkChosen(t, "one to spare less elsewhere than but by itself", withMay(two, 1, 3), 1, true, 1)
	checkChosen(t, "the other one of these two", withMay(two, 0, 3), 0, true, 0, 0)
	away := withMay(smithyWith(dearHall, nil, smith(impl.SmAway, 1, 0, 320)), 0, 3)
	checkChosen(t, "who is away and just fits in alone", away, 0, false, 1, 0, 1)
	away.Smiths[0].Util = 321
	checkChosen(t, "who is away and fits in nowhere", away, 0, false, 0)
}

// That others have too much elsewhere is enough: the least coal is not asked for, though some are Fitting.
func TestCrowdedThoughSomeAreFitting(t *testing.T) {
	text := "1 400:300/1 500:100/1 1000:900"
	m := smithyWith(text, nil, smith(impl.SmAway, 0, 0, 100), smith(impl.SmWorks, 0, 0, 320))
	checkChosen(t, "just not too much", m, 0, false, 1, 1, 2)
	m.Smiths[1].Util++
	checkChosen(t, "too much at its own bench", m, 0, true, 2, 1, 2)
	checkChosen(t, "too much at its own bench, and the strong one not in May", withMay(m, 0, 3), 0, true, 1, 1)
	checkChosen(t, "too much where it may not work", withMay(m, 0, 6), 0, true, 2, 1, 2)
	checkChosen(t, "too much, and it may work there alone", withMay(m, 0, 1), 0, true, 0)
	m.Desks[2].Open = false
	checkChosen(t, "too much, and the strong one closed", m, 0, true, 1, 1)
	m.Desks[1].Open = false
	checkChosen(t, "too much, and all others closed", m, 0, true, 0)
}

// Who fits in nowhere is where most is to spare, though nothing is too much anywhere.
func TestNotCrowdedWhereNoneIsFitting(t *testing.T) {
	for bench := range int64(3) {
		m := smithyWith(dearHall, nil, smith(impl.SmAway, bench, 0, 1000))
		checkChosen(t, "who fits in nowhere", m, 0, false, 2)
		checkChosen(t, "who fits in nowhere, and may not work at the strong one", withMay(m, 0, 3), 0, false, 0)
		m = smithyWith(dearHall, nil, m.Smiths[0], smith(impl.SmWorks, 2, 0, 623))
		checkChosen(t, "one to spare more at the strong one", m, 0, false, 2)
		m.Smiths[1].Util++
		checkChosen(t, "as much to spare at the strong one", m, 0, false, 0)
		m = smithyWith(dearHall, nil, append(m.Smiths, smith(impl.SmWorks, 0, 0, 1))...)
		checkChosen(t, "one to spare less at the first one", m, 0, false, 1)
		m = smithyWith(dearHall, nil, append(m.Smiths, smith(impl.SmWorks, 1, 0, 1))...)
		checkChosen(t, "one to spare less at both", m, 0, false, 2)
	}
}

// Benches that are all alike: every May, with every bench as its own, and some choices of those that are Open.
func TestTheSameLeastCoal(t *testing.T) {
	for _, text := range []string{"4 300:2/4 300:2", "2 300:2/3 300:2/3 300:2", "1 300:2/3 300:2/4 300:2"} {
		for _, open := range []int64{255, 254, 127, 170, 85, 60, 1, 128} {
			for may := int64(1); may <= 255; may++ {
				for own := range int64(8) {
					m := emptySmithy(text)
					for bench := range m.Desks {
						m.Desks[bench].Open = open>>bench&1 == 1
					}
					m.Smiths = []impl.Smith{smith(impl.SmAway, own, 0, 240)}
					m.Smiths[0].May = may
					checkAllAlike(t, m, wantMembers(may&open))
				}
			}
		}
	}
}

// checkAllAlike asks for its own bench, and else for the first one; and where it fits in nowhere for the first one.
func checkAllAlike(t *testing.T, m impl.Smithy, benches []int64) {
	t.Helper()
	first, own := int64(-1), m.Smiths[0].Bench
	if len(benches) > 0 {
		first = benches[0]
	}
	if !slices.Contains(benches, own) {
		own = first
	}
	if got := impl.Fitting(m, 0); !slices.Equal(got, benches) || impl.Chosen(m, 0) != own {
		t.Fatalf("Fitting(%+v, 0) = %v and Chosen is %d, not %d", m, got, impl.Chosen(m, 0), own)
	}
	m.Smiths[0].Util++
	if got := impl.Fitting(m, 0); len(got) != 0 || impl.Chosen(m, 0) != first {
		t.Fatalf("Fitting(%+v, 0) = %v and Chosen is %d, not %d", m, got, impl.Chosen(m, 0), first)
	}
	for bench := range int64(8) {
		if impl.MayWork(m, 0, bench) != slices.Contains(benches, bench) {
			t.Fatalf("MayWork(%+v, 0, %d) = %v", m, bench, impl.MayWork(m, 0, bench))
		}
	}
}

// Its own bench is chosen where it costs as little as others, also where the first one does; not where it costs more.
func TestItsOwnBenchAmongTheCheapest(t *testing.T) {
	cases := []struct {
		what   string
		text   string
		util   int64
		chosen [3]int64
	}{
		{"the first one dearer by one", "1 100:10/1 100:9/1 100:9", 50, [3]int64{1, 1, 2}},
		{"the middle one dearer by one", "1 100:9/1 100:10/1 100:9", 50, [3]int64{0, 0, 2}},
		{"the last one dearer by one", "1 100:9/1 100:9/1 100:10", 50, [3]int64{0, 1, 0}},
		{"none dearer by as much as one", "1 100:10/1 100:9/1 100:9", 9, [3]int64{0, 1, 2}},
		{"the last one cheapest", "1 100:10/1 100:9/1 100:8", 80, [3]int64{2, 2, 2}},
		{"the first one cheapest", "1 100:8/1 100:9/1 100:10", 80, [3]int64{0, 0, 0}},
		{"the middle one cheapest", "1 100:9/1 100:8/1 100:10", 80, [3]int64{1, 1, 1}},
		{"nothing costs anything", "1 100:8/1 200:16/1 400:32", 0, [3]int64{0, 1, 2}},
	}
	for _, k := range cases {
		for own, chosen := range k.chosen {
			for state := int64(impl.SmAway); state <= impl.SmWorks; state += 2 {
				m := smithyWith(k.text, nil, smith(state, int64(own), 0, k.util))
				if got := impl.Chosen(m, 0); got != chosen {
					t.Errorf("%s: Chosen from %d in state %d = %d, not %d", k.what, own, state, got, chosen)
				}
				checkChoiceOfRight(t, k.what, m)
			}
		}
	}
}

// In a crowd the first one of those with most to spare is chosen, also where its own bench has as much.
func TestTheSameGreatestSpare(t *testing.T) {
	for crowd := range int64(8) {
		for own := range int64(8) {
			for may := int64(1); may <= 255; may += 2 + may%3 {
				m := smithyWith("4 300:2/4 300:2", nil, smith(impl.SmAway, own, 0, 10), smith(impl.SmWorks, crowd, 0, 241))
				m.Smiths[0].May = may
				want, benches := crowd, wantMembers(may)
				if roomy := slices.DeleteFunc(slices.Clone(benches), func(b int64) bool { return b == crowd }); len(roomy) > 0 {
					want = roomy[0]
				}
				if got := impl.Chosen(m, 0); got != want || !impl.Crowded(m) {
					t.Fatalf("Chosen(%+v, 0) = %d, not %d", m, got, want)
				}
				checkChoiceAnswers(t, m, upTo(2), upTo(8))
			}
		}
	}
	m := smithyWith("4 300:2/4 300:2", nil, smith(impl.SmWorks, 3, 0, 1024), smith(impl.SmWorks, 0, 0, 1))
	checkChosen(t, "who is too much itself where nothing else is used", m, 0, true, 1)
	m.Smiths[0].Util = 240
	checkChosen(t, "who is not too much there", m, 0, false, 3, 1, 2, 3, 4, 5, 6, 7)
	// All have less than nothing to spare: that of -1 is the greatest.
	low := smithyWith("1 10:1/1 10:1/1 10:1", nil, smith(impl.SmWorks, 0, 0, 13), smith(impl.SmWorks, 1, 0, 12), smith(impl.SmWorks, 2, 0, 11), smith(impl.SmAway, 0, 0, 0))
	checkChosen(t, "less than nothing to spare", low, 3, true, 2)
	checkChosen(t, "less than nothing to spare, and two benches", withMay(low, 3, 3), 3, true, 1)
	low.Smiths[2].Util = 12
	checkChosen(t, "less than nothing to spare at two alike", low, 3, true, 1)
}

// Who is away from a bench that is closed, or no more in its May, has that bench neither first nor at all.
func TestOnesOwnBenchIsNoMore(t *testing.T) {
	m := smithyWith("4 300:2", nil, smith(impl.SmAway, 2, 0, 50))
	checkChosen(t, "its own bench there", m, 0, false, 2, 0, 1, 2, 3)
	checkChosen(t, "its own bench no more in May", withMay(m, 0, 250), 0, false, 1, 1, 3)
	m.Desks[2].Open = false
	checkChosen(t, "its own bench closed", m, 0, false, 0, 0, 1, 3)
	checkChosen(t, "its own bench closed, and another one alone", withMay(m, 0, 12), 0, false, 3, 3)
	checkChosen(t, "its own bench closed and nothing else in May", withMay(m, 0, 4), 0, false, -1)
	checkChosen(t, "no bench there is in May", withMay(m, 0, 240), 0, false, -1)
	m = smithyWith("4 300:2", nil, append(m.Smiths, smith(impl.SmWorks, 0, 0, 500))...)
	m.Desks[2].Open = false
	checkChosen(t, "its own bench closed in a crowd", m, 0, true, 1, 1, 3)
	checkChosen(t, "its own bench closed in a crowd and nothing else in May", withMay(m, 0, 4), 0, true, -1)
	if impl.MayWork(m, 0, 2) || impl.MayWork(withMay(m, 0, 4), 0, 2) || !impl.MayWork(m, 0, 1) || !impl.MayWork(m, 0, 0) {
		t.Fatal("one may work where it is closed, or may not where it is Open")
	}
}

// Every choice of benches that are Open, with every May, for one who is away.
func TestMayWorkIsOpenAndInMay(t *testing.T) {
	for _, text := range []string{"1 7:7", benchHall, eightHall} {
		benches := len(emptySmithy(text).Desks)
		for open := int64(1); open < 1<<benches; open += 1 + open/20 {
			for may := int64(1); may <= 255; may++ {
				m := emptySmithy(text)
				for bench := range m.Desks {
					m.Desks[bench].Open = open>>bench&1 == 1
				}
				m.Smiths = []impl.Smith{gone(), smith(impl.SmAway, int64(benches)-1, 0, 20)}
				m.Smiths[1].May = may
				for bench := range int64(benches) {
					if impl.MayWork(m, 1, bench) != (may&open>>bench&1 == 1) || impl.MayWork(m, 0, bench) {
						t.Fatalf("MayWork(%+v, 1, %d) = %v", m, bench, impl.MayWork(m, 1, bench))
					}
				}
				if may&open == 0 {
					checkNoneFor(t, "nothing in May is Open", m, 1)
				}
				checkChoiceAnswers(t, m, upTo(2), upTo(benches))
			}
		}
	}
}

// What one wants is bounded by its own Low and High and by its guilds, where it is and where it would be.
func TestChoiceOfBoundedWants(t *testing.T) {
	for g := int64(-1); g < 6; g++ {
		for _, b := range [][2]int64{{0, 1024}, {0, 0}, {1024, 1024}, {99, 501}, {300, 300}, {701, 900}} {
			for util := int64(0); util <= 1024; util += 256 {
				for who := range 4 {
					m := dearSmithy()
					m.Guilds = someGuilds()
					m.Smiths[who].Guild, m.Smiths[who].Low, m.Smiths[who].High, m.Smiths[who].Util = g, b[0], b[1], util
					checkChoiceOfRight(t, fmt.Sprint("guild ", g, " and bounds ", b), m)
				}
			}
		}
	}
}

// Whose turn it is, what each one had, which Pace a room has, what the time is and how far the Marks are is of no matter.
func TestWhatIsOfNoMatterToTheChoice(t *testing.T) {
	l := lots(1414)
	list := append(rightSmithies(), dearSmithy())
	for range 60 {
		m := withTurns(&l, drawnSmithy(&l, mustHall(oneOf(&l, benchHall, dearHall, eightHall)), 10))
		list = append(list, m, eased(&l, m, 100))
	}
	for _, m := range list {
		others := []impl.Smithy{impl.Turned(m)}
		for room, r := range m.Hall.Rooms {
			for pace := range r.Paces {
				x := lendSmithy(m)
				x.Paces[room], x.Now = int64(pace), mostNow-m.Now
				others = append(others, x)
			}
		}
		x := lendSmithy(m)
		for bench := range x.Desks {
			x.Desks[bench].Mark = oneOf[int64](&l, -mostMark, 0, mostMark)
		}
		for who, s := range x.Smiths {
			if s.State >= impl.SmWaits {
				x.Smiths[who].Had, x.Smiths[who].Work = x.Desks[s.Bench].Mark+int64(who), mostWork
			}
		}
		for _, other := range append(others, x) {
			checkSameChoice(t, m, other)
		}
	}
}

func checkSameChoice(t *testing.T, a, b impl.Smithy) {
	t.Helper()
	if !impl.SmithyOk(b) || impl.Crowded(a) != impl.Crowded(b) {
		t.Fatalf("Crowded(%+v) = %v, and not so of %+v", a, impl.Crowded(a), b)
	}
	for _, who := range upTo(len(a.Smiths)) {
		if !slices.Equal(impl.Fitting(a, who), impl.Fitting(b, who)) || impl.Chosen(a, who) != impl.Chosen(b, who) {
			t.Fatalf("%d of %+v and of %+v", who, a, b)
		}
		for _, bench := range upTo(len(a.Desks)) {
			if impl.MayWork(a, who, bench) != impl.MayWork(b, who, bench) {
				t.Fatalf("%d at %d of %+v and of %+v", who, bench, a, b)
			}
		}
	}
}

// Who is chosen again, once it is there, stays there, for what it costs is the same wherever it comes from.
func TestWhoIsWhereItWasChosenStays(t *testing.T) {
	l := lots(141414)
	for _, h := range rightHalls(t) {
		m := eased(&l, withTurns(&l, drawnSmithy(&l, h, 7)), 60)
		for who, s := range m.Smiths {
			if s.State == impl.SmGone || impl.Crowded(m) || len(impl.Fitting(m, int64(who))) == 0 {
				continue
			}
			chosen := impl.Chosen(m, int64(who))
			x := putThere(t, m, int64(who), chosen)
			if !impl.Crowded(x) && impl.Chosen(x, int64(who)) != chosen {
				t.Fatalf("Chosen(%+v, %d) = %d, and then %d", m, who, chosen, impl.Chosen(x, int64(who)))
			}
		}
	}
}

func TestWhosAndBenchesToChooseOutOfRange(t *testing.T) {
	for _, m := range append(rightSmithies(), dearSmithy()) {
		whos, benches := int64(len(m.Smiths)), int64(len(m.Desks))
		for _, who := range slices.Concat(wrongPlaces, []int64{whos, whos + 1}) {
			checkNoneFor(t, "nobody", m, who)
		}
		for who := range m.Smiths {
			for _, bench := range slices.Concat(wrongPlaces, []int64{benches, benches + 1, 8, 9}) {
				if impl.MayWork(m, int64(who), bench) {
					t.Fatalf("MayWork(%+v, %d, %d)", m, who, bench)
				}
			}
		}
	}
	for _, text := range []string{"1 1:1", benchHall, eightHall} {
		m := emptySmithy(text)
		last := int64(len(m.Desks)) - 1
		m.Smiths = []impl.Smith{smith(impl.SmAway, 0, 0, 0), gone(), smith(impl.SmAway, last, 0, 0)}
		for _, who := range []int64{0, 2} {
			if impl.MayWork(m, who, -1) || !impl.MayWork(m, who, 0) || !impl.MayWork(m, who, last) || impl.MayWork(m, who, last+1) {
				t.Fatalf("the benches of %s are not these where one may work", text)
			}
			if impl.Chosen(m, who) != m.Smiths[who].Bench || len(impl.Fitting(m, who)) != len(m.Desks) {
				t.Fatalf("Chosen(%+v, %d) = %d", m, who, impl.Chosen(m, who))
			}
		}
		for _, who := range []int64{-1, 1, 3} {
			checkNoneFor(t, "nobody", m, who)
		}
	}
}

// Each part that chapter 11 names, wrong one at a time, and all that may be wrong in whose turn it is. What is spoiled was
// Crowded, so that it is not false for that alone.
func TestWhatIsWrongChoosesNothing(t *testing.T) {
	if !impl.Crowded(middleSmithy()) {
		t.Fatal("what is spoiled was not Crowded ahead of it")
	}
	for what, m := range wrongSmithies {
		checkNoChoice(t, what, m)
	}
}

// The least and the greatest int64, and others that are right nowhere, in each number of each part and in all of them.
func TestChoiceOfWrongNumbersInEveryPart(t *testing.T) {
	for what, m := range wrongNumbersInEveryPart {
		checkNoChoice(t, what, m)
		for _, who := range []int64{math.MinInt64, math.MaxInt64} {
			checkNoneFor(t, what, m, who)
		}
	}
}

// Each number of a right smithy a little off, and at many others that may be right or wrong there, held against a
// reckoning.
func TestChoiceOfEveryNumberALittleOff(t *testing.T) {
	others := []int64{-mostMark - 1, -6, -1, 0, 1, 2, 3, 4, 7, 8, 100, 255, 256, 500, 1000, 1024, 1025, mostNow + 1, mostMark + 1}
	for _, right := range []impl.Smithy{middleSmithy(), fullSmithy(), dearSmithy()} {
		for i, number := range numbersOf(&right) {
			tries := slices.Clone(others)
			for off := int64(-2); off <= 2; off++ {
				tries = append(tries, *number.at+off)
			}
			for _, n := range tries {
				m := lendSmithy(right)
				*numbersOf(&m)[i].at = n
				checkChoiceAnswers(t, m, upTo(3), upTo(3))
			}
		}
	}
}

// Limits that are met exactly are accepted.
func TestChoiceOfWhatMeetsItsLimits(t *testing.T) {
	for i, change := range []func(m *impl.Smithy){
		func(m *impl.Smithy) { m.Now = 0 },
		func(m *impl.Smithy) { m.Now = mostNow },
		func(m *impl.Smithy) { m.Smiths = append(m.Smiths, make([]impl.Smith, 7)...) },
		func(m *impl.Smithy) { m.Guilds = slices.Repeat(m.Guilds, 6) },
		func(m *impl.Smithy) { m.Paces = []int64{1, 1} },
		func(m *impl.Smithy) { m.Desks[1].Mark = mostMark },
		func(m *impl.Smithy) { m.Desks[1].Mark = -mostMark },
		func(m *impl.Smithy) { m.Smiths[1].Work, m.Smiths[1].Util, m.Smiths[1].Carry = mostWork, 1024, 1279 },
		func(m *impl.Smithy) { m.Smiths[0].Had = 200 + lead },
		func(m *impl.Smithy) { m.Smiths[0].Had = 200 - credit },
		func(m *impl.Smithy) { m.Smiths[2].Had, m.Smiths[2].Bench = leastHad, 1 },
		func(m *impl.Smithy) { m.Smiths[2].Had = mostHad },
		func(m *impl.Smithy) {
			m.Hall.Rooms[0].Paces[1], m.Hall.Rooms[1].Paces[1] = impl.Pace{Force: 1024, Coal: 1024}, impl.Pace{Force: 1024, Coal: 1024}
		},
		func(m *impl.Smithy) { m.Hall.Rooms[0].Paces[0] = impl.Pace{Force: 1, Coal: 1} },
	} {
		m := lendSmithy(middleSmithy())
		change(&m)
		checkChoiceOfRight(t, fmt.Sprint("limit ", i), m)
	}
}

// Twelve that want all, at one bench and spread over all of them.
func TestChoiceWhereTheMostIsUsed(t *testing.T) {
	for _, text := range []string{"1 1:1024", "1 1024:1", "4 1:1 1024:1024", dearHall, eightHall} {
		benches := len(emptySmithy(text).Desks)
		for spread := 1; spread <= benches; spread++ {
			m := emptySmithy(text)
			for who := range mostSmiths {
				m.Smiths = append(m.Smiths, smith(impl.SmWaits, int64(who%spread), 0, 1024))
			}
			m = impl.Turned(m)
			checkChoiceOfRight(t, "twelve that want all", m)
			if !impl.Crowded(m) {
				t.Fatalf("not Crowded(%+v)", m)
			}
		}
	}
}

func TestChoiceOfEmptyAndNilLists(t *testing.T) {
	for what, m := range withListsDropped {
		checkNoChoice(t, what, m)
	}
	for _, text := range []string{"1 1:1", benchHall, eightHall} {
		m := emptySmithy(text)
		checkChoiceOfRight(t, "empty guilds and smiths", m)
		m.Guilds, m.Smiths = nil, nil
		checkChoiceOfRight(t, "no guilds and no smiths", m)
		checkNoneFor(t, "no smiths", m, 0)
	}
}

func TestFittingIsNewMemory(t *testing.T) {
	for _, m := range append(rightSmithies(), dearSmithy(), impl.Smithy{}) {
		before, used := toTheBrim(m), wantUsed(m)
		for _, who := range upTo(len(m.Smiths)) {
			list, other := impl.Fitting(m, who), impl.Fitting(m, who)
			checkNoneShared(t, m, list, other)
			all := list[:cap(list)]
			for i := range all {
				all[i] = -79
			}
			if !reflect.DeepEqual(toTheBrim(m), before) || !slices.Equal(other, wantFitting(m, used, who)) || !slices.Equal(impl.Fitting(m, who), other) {
				t.Fatalf("what was written to Fitting(%+v, %d) is seen elsewhere", before, who)
			}
		}
	}
}

// Every smithy of two benches, in one room and in two, and of two smiths in all states, held against a reckoning.
func TestChoiceOfSmallSmithies(t *testing.T) {
	kinds := []impl.Smith{gone()}
	for state := int64(impl.SmAway); state <= impl.SmWorks; state++ {
		for bench := range int64(2) {
			for _, util := range []int64{0, 24, 40, 41, 48, 49} {
				for may := int64(1); may <= 3; may++ {
					s := smith(state, bench, 0, util)
					s.May = may
					kinds = append(kinds, s)
				}
			}
		}
	}
	for _, text := range []string{"1 50:30 60:70/1 90:50 100:80", "2 50:30 60:70", "1 60:5/1 60:5"} {
		right := 0
		m := emptySmithy(text)
		m.Smiths = make([]impl.Smith, 2)
		for _, m.Smiths[0] = range kinds {
			for _, m.Smiths[1] = range kinds {
				for open := range 4 {
					m.Desks[0], m.Desks[1] = impl.Desk{Open: open%2 == 1, Who: -1}, impl.Desk{Open: open/2 == 1, Who: -1}
					for who, s := range m.Smiths {
						if s.State == impl.SmWorks {
							m.Desks[s.Bench].Who = int64(who)
						}
					}
					checkChoiceAnswers(t, m, upTo(2), upTo(2))
					if impl.SmithyOk(m) {
						right++
						checkPromise14(t, m)
					}
				}
			}
		}
		if right < 5000 {
			t.Fatalf("only %d of them are right", right)
		}
	}
}
