package tests

import (
	"math"
	"slices"
	"testing"

	"loop.example/g00553/impl"
)

const million = 1000000

// noNeeds holds what is neither a need nor a work; those that look like one in their lowest bits alone, and those that
// would once they are taken 5 or 1024 times and wrap round, are among them.
var noNeeds = []int64{
	math.MinInt64, math.MinInt64 + 1, math.MinInt64 + 160, math.MinInt64 / 5, math.MinInt64 / 1024, math.MinInt32, -1<<32 + 160, -billion,
	-million - 1, -million, -1024, -160, -5, -2, -1, million + 1, million + 2, 2 * million, billion, math.MaxInt32, 1 << 32, 1<<32 + 160,
	1 << 54, 1 << 56, math.MaxInt64/1024 + 1, math.MaxInt64/5 + 1, 3689348814741910324, 1 << 62, math.MaxInt64 - 1, math.MaxInt64,
}

// noPlaces holds what is no place of a Pace in any right room.
var noPlaces = []int64{
	math.MinInt64, math.MinInt64 + 1, math.MinInt32, -1 << 32, -billion, -256, -4, -2, -1,
	4, 5, 8, 64, 256, billion, math.MaxInt32, 1 << 32, 1<<32 + 1, math.MaxInt64 - 1, math.MaxInt64,
}

// paceRooms holds right rooms of one to four Paces, each with every number of benches.
func paceRooms() []impl.Room {
	lists := append(somePaces(),
		[]impl.Pace{{Force: 5, Coal: 1}},
		[]impl.Pace{{Force: 1, Coal: 1}, {Force: 2, Coal: 2}},
		[]impl.Pace{{Force: 1, Coal: 1}, {Force: 1024, Coal: 1024}},
		[]impl.Pace{{Force: 1023, Coal: 1023}, {Force: 1024, Coal: 1024}},
		[]impl.Pace{{Force: 5, Coal: 2}, {Force: 10, Coal: 7}, {Force: 15, Coal: 31}, {Force: 20, Coal: 1000}},
		[]impl.Pace{{Force: 100, Coal: 1}, {Force: 101, Coal: 2}, {Force: 500, Coal: 9}, {Force: 1000, Coal: 1024}},
		[]impl.Pace{{Force: 1, Coal: 1}, {Force: 2, Coal: 2}, {Force: 1023, Coal: 1023}, {Force: 1024, Coal: 1024}},
	)
	rooms := []impl.Room{}
	for _, paces := range lists {
		for benches := int64(1); benches <= 4; benches++ {
			rooms = append(rooms, roomWith(benches, slices.Clone(paces)...))
		}
	}
	return rooms
}

// wrongRooms holds a room for each thing that can be wrong with one; all but that is right.
func wrongRooms() []impl.Room {
	one := impl.Pace{Force: 200, Coal: 1}
	two := impl.Pace{Force: 400, Coal: 3}
	rooms := []impl.Room{
		{},
		{Paces: []impl.Pace{one, two}},
		{Benches: 2},
		{Benches: 2, Paces: []impl.Pace{}},
		roomWith(5, one, two),
		roomWith(2, one, one),
		roomWith(2, two, one),
		roomWith(2, one, impl.Pace{Force: 200, Coal: 3}),
		roomWith(2, one, impl.Pace{Force: 400, Coal: 1}),
		roomWith(2, two, impl.Pace{Force: 200, Coal: 4}),
		roomWith(2, two, impl.Pace{Force: 500, Coal: 2}),
		roomWith(2, one, impl.Pace{}),
		roomWith(2, impl.Pace{}, two),
		roomWith(2, one, two, impl.Pace{Force: 500, Coal: 4}, impl.Pace{Force: 500, Coal: 5}),
		roomWith(2, one, two, impl.Pace{Force: 500, Coal: 4}, impl.Pace{Force: 600, Coal: 4}),
		roomWith(2, one, two, impl.Pace{Force: 500, Coal: 4}, impl.Pace{Force: 600, Coal: 5}, impl.Pace{Force: 700, Coal: 6}),
	}
	for _, n := range wrongNumbers {
		rooms = append(rooms,
			roomWith(n, one, two),
			roomWith(2, impl.Pace{Force: n, Coal: 1}, two),
			roomWith(2, impl.Pace{Force: 200, Coal: n}, two),
			roomWith(2, one, impl.Pace{Force: n, Coal: 3}),
			roomWith(2, one, impl.Pace{Force: 400, Coal: n}),
			roomWith(n, impl.Pace{Force: n, Coal: n}),
		)
	}
	return rooms
}

// greatestNeed is the most that a Pace is enough for, found by adding four fifths up one Force at a time: the program
// multiplies.
func greatestNeed(p impl.Pace) int64 {
	need, fifths := int64(0), 0
	for range p.Force {
		fifths += 4
		if fifths >= 5 {
			fifths -= 5
			need++
		}
	}
	return need
}

func wantPaceFor(r impl.Room, need int64) int64 {
	if !wantRoomOk(r) || !isFrom(need, 0, million) {
		return -1
	}
	found := int64(len(r.Paces)) - 1
	for i, p := range slices.Backward(r.Paces) {
		if need <= greatestNeed(p) {
			found = int64(i)
		}
	}
	return found
}

func wantCoalFor(r impl.Room, pace, work int64) int64 {
	if !wantRoomOk(r) || !isFrom(pace, 0, int64(len(r.Paces))-1) || !isFrom(work, 0, million) {
		return -1
	}
	return wantMulDiv(r.Paces[pace].Coal, work, r.Paces[pace].Force)
}

// needsOf holds the needs at which the answer of a room may change, those beside them, and the limits.
func needsOf(r impl.Room) []int64 {
	needs := []int64{0, 1, 2, 819, 820, 1024, 1025, 65536, million - 1, million}
	for _, p := range r.Paces {
		g := greatestNeed(p)
		needs = append(needs, g, g+1, g+2, p.Force, p.Force+1)
		if g > 0 {
			needs = append(needs, g-1)
		}
	}
	return needs
}

// worksOf holds works that a Force divides and those beside them, and the limits.
func worksOf(r impl.Room) []int64 {
	works := []int64{0, 1, 2, 300, 1000, 1023, 1024, 1025, million - 1, million}
	for _, p := range r.Paces {
		works = append(works, p.Force-1, p.Force, p.Force+1, 7*p.Force-1, 7*p.Force)
	}
	return works
}

func checkPaceFor(t *testing.T, r impl.Room, need int64) {
	t.Helper()
	if got, want := impl.PaceFor(r, need), wantPaceFor(r, need); got != want {
		t.Fatalf("PaceFor(%v, %d) = %d, not %d", r, need, got, want)
	}
}

func checkCoalFor(t *testing.T, r impl.Room, pace, work int64) {
	t.Helper()
	if got, want := impl.CoalFor(r, pace, work), wantCoalFor(r, pace, work); got != want {
		t.Fatalf("CoalFor(%v, %d, %d) = %d, not %d", r, pace, work, got, want)
	}
}

func checkLeastCoal(t *testing.T, r impl.Room, need, work int64) {
	t.Helper()
	if got, want := impl.LeastCoal(r, need, work), wantCoalFor(r, wantPaceFor(r, need), work); got != want {
		t.Fatalf("LeastCoal(%v, %d, %d) = %d, not %d", r, need, work, got, want)
	}
}

func TestPaceForCases(t *testing.T) {
	one := roomWith(1, impl.Pace{Force: 5, Coal: 1})
	two := roomWith(2, impl.Pace{Force: 200, Coal: 1}, impl.Pace{Force: 400, Coal: 3})
	four := roomWith(4, impl.Pace{Force: 100, Coal: 1}, impl.Pace{Force: 101, Coal: 2}, impl.Pace{Force: 500, Coal: 9}, impl.Pace{Force: 1024, Coal: 1024})
	least := roomWith(1, impl.Pace{Force: 1, Coal: 1}, impl.Pace{Force: 2, Coal: 2})
	cases := []struct {
		r          impl.Room
		need, want int64
	}{
		{one, 0, 0}, {one, 4, 0}, {one, 5, 0}, {one, million, 0}, {one, -1, -1}, {one, million + 1, -1},
		{two, 0, 0}, {two, 1, 0}, {two, 159, 0}, {two, 160, 0}, {two, 161, 1}, {two, 200, 1}, {two, 319, 1}, {two, 320, 1},
		{two, 321, 1}, {two, 400, 1}, {two, 1000, 1}, {two, million, 1}, {two, -1, -1}, {two, million + 1, -1},
		{four, 0, 0}, {four, 80, 0}, {four, 81, 2}, {four, 400, 2}, {four, 401, 3}, {four, 819, 3}, {four, 820, 3}, {four, million, 3},
		{four, -1, -1}, {four, million + 1, -1}, {four, math.MinInt64, -1}, {four, math.MaxInt64, -1},
		{least, 0, 0}, {least, 1, 1}, {least, 2, 1}, {least, 3, 1},
		{impl.Room{}, 0, -1}, {impl.Room{}, -1, -1}, {impl.Room{}, math.MaxInt64, -1},
	}
	for _, k := range cases {
		if got := impl.PaceFor(k.r, k.need); got != k.want {
			t.Errorf("PaceFor(%v, %d) = %d, not %d", k.r, k.need, got, k.want)
		}
	}
}

func TestCoalForCases(t *testing.T) {
	two := roomWith(2, impl.Pace{Force: 200, Coal: 1}, impl.Pace{Force: 400, Coal: 3})
	four := roomWith(1, impl.Pace{Force: 1, Coal: 1}, impl.Pace{Force: 3, Coal: 7}, impl.Pace{Force: 7, Coal: 100}, impl.Pace{Force: 1024, Coal: 1024})
	dear := roomWith(1, impl.Pace{Force: 1, Coal: 1024})
	cheap := roomWith(4, impl.Pace{Force: 1024, Coal: 1})
	cases := []struct {
		r                impl.Room
		pace, work, want int64
	}{
		{two, 0, 0, 0}, {two, 0, 199, 0}, {two, 0, 200, 1}, {two, 0, 300, 1}, {two, 0, 400, 2}, {two, 0, million, 5000},
		{two, 1, 0, 0}, {two, 1, 133, 0}, {two, 1, 134, 1}, {two, 1, 300, 2}, {two, 1, 1000, 7}, {two, 1, million, 7500},
		{two, -1, 300, -1}, {two, 2, 300, -1}, {two, 0, -1, -1}, {two, 0, million + 1, -1}, {two, 1, -1, -1}, {two, 1, million + 1, -1},
		{two, math.MinInt64, 300, -1}, {two, math.MaxInt64, 300, -1}, {two, 0, math.MinInt64, -1}, {two, 0, math.MaxInt64, -1},
		{four, 0, 10, 10}, {four, 1, 10, 23}, {four, 2, 10, 142}, {four, 3, 10, 10}, {four, 4, 10, -1}, {four, -1, 10, -1},
		{dear, 0, million, 1024 * million}, {dear, 0, 1, 1024}, {dear, 0, 0, 0}, {dear, 1, 0, -1}, {dear, -1, 0, -1},
		{cheap, 0, million, 976}, {cheap, 0, 1023, 0}, {cheap, 0, 1024, 1}, {cheap, 0, 0, 0},
		{impl.Room{}, 0, 0, -1}, {impl.Room{}, -1, 0, -1}, {impl.Room{}, math.MinInt64, math.MinInt64, -1},
	}
	for _, k := range cases {
		if got := impl.CoalFor(k.r, k.pace, k.work); got != k.want {
			t.Errorf("CoalFor(%v, %d, %d) = %d, not %d", k.r, k.pace, k.work, got, k.want)
		}
	}
}

func TestLeastCoalCases(t *testing.T) {
	two := roomWith(2, impl.Pace{Force: 200, Coal: 1}, impl.Pace{Force: 400, Coal: 3})
	cases := []struct {
		r                impl.Room
		need, work, want int64
	}{
		{two, 0, 1000, 5}, {two, 160, 1000, 5}, {two, 161, 1000, 7}, {two, 320, 1000, 7}, {two, 321, 1000, 7}, {two, million, million, 7500},
		{two, 0, 0, 0}, {two, 0, million, 5000}, {two, million, 0, 0},
		{two, -1, 1000, -1}, {two, million + 1, 1000, -1}, {two, 0, -1, -1}, {two, 0, million + 1, -1}, {two, -1, -1, -1},
		{two, math.MinInt64, 0, -1}, {two, math.MaxInt64, 0, -1}, {two, 0, math.MinInt64, -1}, {two, 0, math.MaxInt64, -1},
		{impl.Room{}, 0, 0, -1}, {impl.Room{}, -1, -1, -1}, {impl.Room{}, math.MaxInt64, math.MaxInt64, -1},
	}
	for _, k := range cases {
		if got := impl.LeastCoal(k.r, k.need, k.work); got != k.want {
			t.Errorf("LeastCoal(%v, %d, %d) = %d, not %d", k.r, k.need, k.work, got, k.want)
		}
	}
}

// Promise 5: the Pace that is told is enough, if one is, and none ahead of it is; else it is the last one.
func TestThePaceIsEnoughAndNoSlowerOneIs(t *testing.T) {
	for _, r := range paceRooms() {
		isEnough := func(place, need int64) bool { return 5*need <= 4*r.Paces[place].Force }
		last := int64(len(r.Paces)) - 1
		for need := int64(0); need <= 1100; need++ {
			got := impl.PaceFor(r, need)
			if !isFrom(got, 0, last) {
				t.Fatalf("PaceFor(%v, %d) = %d is no place", r, need, got)
			}
			for place := range last + 1 {
				if isEnough(place, need) && !isEnough(got, need) {
					t.Fatalf("PaceFor(%v, %d) = %d is not enough, %d is", r, need, got, place)
				}
				if isEnough(place, need) && place < got {
					t.Fatalf("PaceFor(%v, %d) = %d, %d is slower and enough", r, need, got, place)
				}
			}
			if !isEnough(got, need) && got != last {
				t.Fatalf("PaceFor(%v, %d) = %d, none is enough and the last is %d", r, need, got, last)
			}
		}
	}
}

// Promise 5, at each place in turn: each is the slowest that is enough for four needs, and for those behind none is.
func TestEachPlaceIsTold(t *testing.T) {
	r := roomWith(1, impl.Pace{Force: 5, Coal: 2}, impl.Pace{Force: 10, Coal: 7}, impl.Pace{Force: 15, Coal: 31}, impl.Pace{Force: 20, Coal: 1000})
	for paces := 1; paces <= 4; paces++ {
		short := roomWith(1, r.Paces[:paces]...)
		for need := int64(0); need <= 40; need++ {
			want := min(max(need-1, 0)/4, int64(paces)-1)
			if got := impl.PaceFor(short, need); got != want {
				t.Fatalf("PaceFor(%v, %d) = %d, not %d", short, need, got, want)
			}
		}
	}
}

// Of every Force there is: 5 times need just 4 times it, or as near as can be, and one more.
func TestEveryForceAtTheNeedItIsJustEnoughFor(t *testing.T) {
	for force := int64(1); force < 1024; force++ {
		r := roomWith(1, impl.Pace{Force: force, Coal: 1}, impl.Pace{Force: 1024, Coal: 1024})
		need := 4 * force / 5
		if got := impl.PaceFor(r, need); got != 0 {
			t.Fatalf("PaceFor(%v, %d) = %d", r, need, got)
		}
		if got := impl.PaceFor(r, need+1); got != 1 {
			t.Fatalf("PaceFor(%v, %d) = %d", r, need+1, got)
		}
	}
}

func TestPaceForHeldAgainstAReckoning(t *testing.T) {
	for _, r := range paceRooms() {
		for _, need := range needsOf(r) {
			checkPaceFor(t, r, need)
		}
	}
}

// How many benches there are is of no matter to any answer of this chapter.
func TestBenchesAreOfNoMatter(t *testing.T) {
	for _, r := range paceRooms() {
		alone := roomWith(1, r.Paces...)
		for _, need := range needsOf(r) {
			if got, want := impl.PaceFor(r, need), impl.PaceFor(alone, need); got != want {
				t.Fatalf("PaceFor(%v, %d) = %d, of one bench %d", r, need, got, want)
			}
			if got, want := impl.LeastCoal(r, need, million), impl.LeastCoal(alone, need, million); got != want {
				t.Fatalf("LeastCoal(%v, %d, %d) = %d, of one bench %d", r, need, million, got, want)
			}
		}
	}
}

// More need never asks for a slower Pace.
func TestPacesRiseWithTheNeed(t *testing.T) {
	for _, r := range paceRooms() {
		ahead := int64(0)
		for need := int64(0); need <= 1100; need++ {
			got := impl.PaceFor(r, need)
			if got < ahead {
				t.Fatalf("PaceFor(%v, %d) = %d, of one less %d", r, need, got, ahead)
			}
			ahead = got
		}
	}
}

// Every Pace of every room, and the places on both sides of them.
func TestCoalForEachPace(t *testing.T) {
	for _, r := range paceRooms() {
		for _, work := range worksOf(r) {
			for place := int64(-2); place <= 6; place++ {
				checkCoalFor(t, r, place, work)
			}
			for _, place := range noPlaces {
				if got := impl.CoalFor(r, place, work); got != -1 {
					t.Fatalf("CoalFor(%v, %d, %d) = %d", r, place, work, got)
				}
			}
		}
	}
}

func TestCoalForEveryForceAndCoal(t *testing.T) {
	for n := int64(1); n <= 1024; n++ {
		for _, p := range []impl.Pace{{Force: n, Coal: 1}, {Force: 1, Coal: n}, {Force: n, Coal: 1024}, {Force: 1024, Coal: n}, {Force: n, Coal: 1025 - n}} {
			for _, work := range worksOf(roomWith(1, p)) {
				checkCoalFor(t, roomWith(1, p), 0, work)
			}
		}
	}
}

func TestLeastCoalIsCoalForOfPaceFor(t *testing.T) {
	for _, r := range paceRooms() {
		for _, need := range append(needsOf(r), -1, million+1) {
			for _, work := range append(worksOf(r), -1, million+1) {
				checkLeastCoal(t, r, need, work)
				if got, want := impl.LeastCoal(r, need, work), impl.CoalFor(r, impl.PaceFor(r, need), work); got != want {
					t.Fatalf("LeastCoal(%v, %d, %d) = %d, CoalFor of PaceFor is %d", r, need, work, got, want)
				}
			}
		}
	}
}

func TestNeedsAndWorksOutOfRange(t *testing.T) {
	for _, r := range paceRooms() {
		for _, n := range noNeeds {
			for place := range r.Paces {
				if got := impl.CoalFor(r, int64(place), n); got != -1 {
					t.Fatalf("CoalFor(%v, %d, %d) = %d", r, place, n, got)
				}
			}
			if got := impl.PaceFor(r, n); got != -1 {
				t.Fatalf("PaceFor(%v, %d) = %d", r, n, got)
			}
			for _, right := range []int64{0, 160, million} {
				if got := impl.LeastCoal(r, n, right); got != -1 {
					t.Fatalf("LeastCoal(%v, %d, %d) = %d", r, n, right, got)
				}
				if got := impl.LeastCoal(r, right, n); got != -1 {
					t.Fatalf("LeastCoal(%v, %d, %d) = %d", r, right, n, got)
				}
			}
			for _, m := range noNeeds {
				if got := impl.LeastCoal(r, n, m); got != -1 {
					t.Fatalf("LeastCoal(%v, %d, %d) = %d", r, n, m, got)
				}
			}
		}
	}
}

// Of a room that is not right nothing is told, whatever the other arguments are.
func TestWrongRoomsHaveNoPace(t *testing.T) {
	numbers := slices.Concat([]int64{0, 1, 2, 3, 160, 161, million}, noNeeds, noPlaces)
	for _, r := range wrongRooms() {
		if wantRoomOk(r) {
			t.Fatalf("%v is right", r)
		}
		for _, n := range numbers {
			if got := impl.PaceFor(r, n); got != -1 {
				t.Fatalf("PaceFor(%v, %d) = %d", r, n, got)
			}
			for _, m := range numbers {
				if got := impl.CoalFor(r, n, m); got != -1 {
					t.Fatalf("CoalFor(%v, %d, %d) = %d", r, n, m, got)
				}
				if got := impl.LeastCoal(r, n, m); got != -1 {
					t.Fatalf("LeastCoal(%v, %d, %d) = %d", r, n, m, got)
				}
			}
		}
	}
}

// Every pair of Paces near the limits, right rooms and wrong ones.
func TestEveryRoomOfTwoPacesNearTheLimits(t *testing.T) {
	near := []int64{math.MinInt64, -1, 0, 1, 2, 5, 512, 1023, 1024, 1025, math.MaxInt64}
	for _, a := range near {
		for _, b := range near {
			for _, c := range near {
				for _, d := range near {
					r := roomWith(3, impl.Pace{Force: a, Coal: b}, impl.Pace{Force: c, Coal: d})
					for _, n := range []int64{-1, 0, 1, 4, 5, 409, 410, 819, 820, million, million + 1} {
						checkPaceFor(t, r, n)
						checkCoalFor(t, r, 0, n)
						checkCoalFor(t, r, 1, n)
						checkCoalFor(t, r, 2, n)
						checkLeastCoal(t, r, n, n)
					}
				}
			}
		}
	}
}

// Arguments stay as they are, and so does the spare room behind their lists; what stands there is not looked at.
func TestRoomsStay(t *testing.T) {
	for _, r := range append(paceRooms(), wrongRooms()...) {
		before := slices.Concat(r.Paces, []impl.Pace{{Force: 1022, Coal: 1022}, {Force: 1023, Coal: 1023}})
		whole := slices.Clone(before)
		short := impl.Room{Benches: r.Benches, Paces: whole[:len(r.Paces)]}
		for _, n := range []int64{math.MinInt64, -1, 0, 1, 160, 820, million, million + 1, math.MaxInt64} {
			for place := int64(-1); place <= 6; place++ {
				checkCoalFor(t, short, place, n)
			}
			checkPaceFor(t, short, n)
			checkLeastCoal(t, short, n, n)
		}
		if !slices.Equal(whole, before) {
			t.Fatalf("%v became %v", before, whole)
		}
	}
}
