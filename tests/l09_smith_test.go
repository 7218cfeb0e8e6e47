package tests

import (
	"math"
	"slices"
	"testing"

	"loop.example/g00553/impl"
)

const (
	mostWork   = 100 * billion
	mostCharge = 100000
)

// smithFields names each number of a Smith, in the order in which fieldOf counts them.
var smithFields = []string{"State", "Bench", "Rank", "May", "Guild", "Low", "High", "Had", "Carry", "Util", "Work"}

// wrongInAnyField holds what no field of a Smith may be; what looks right in its lowest bits alone is among it.
var wrongInAnyField = []int64{
	math.MinInt64, math.MinInt64 + 1, math.MinInt64 + 3, -1 << 62, -1<<62 + 3, -1 << 48, leastHad - 1,
	mostHad + 1, 1 << 48, 1<<62 + 3, 1 << 62, math.MaxInt64 - 1, math.MaxInt64,
}

var (
	noWorks   = []int64{-1, -2, -1024, math.MinInt64 + mostWork, math.MinInt64, mostWork + 1, mostWork + 2, 1 << 40, trillion, 1 << 62, math.MaxInt64}
	noCharges = []int64{
		math.MinInt64, math.MinInt64 + 1, math.MinInt64 + 10, -1 << 62, -1<<32 + 10, -billion, -mostCharge, -1024, -2, -1,
		mostCharge + 1, mostCharge + 2, million, billion, billion + 1, 1 << 32, 1<<32 + 10, mostWork, 1<<54 + 1, 1 << 62, math.MaxInt64 - 1, math.MaxInt64,
	}
)

func fieldOf(s *impl.Smith, i int) *int64 {
	return []*int64{&s.State, &s.Bench, &s.Rank, &s.May, &s.Guild, &s.Low, &s.High, &s.Had, &s.Carry, &s.Util, &s.Work}[i]
}

// someSmith is right, and has no two fields alike.
func someSmith() impl.Smith {
	return impl.Smith{State: impl.SmWaits, Bench: 3, Rank: -1, May: 137, Guild: 4, Low: 100, High: 900, Had: 5000, Carry: 7, Util: 300, Work: 12345}
}

func smithWith(change func(s *impl.Smith)) impl.Smith {
	s := someSmith()
	change(&s)
	return s
}

// weightAt takes ranks alone.
func weightAt(rank int64) int64 { return ranked[rank+5] }

func wantIsGone(s impl.Smith) bool {
	for i := range smithFields {
		if *fieldOf(&s, i) != 0 {
			return false
		}
	}
	return true
}

func wantSmithOk(s impl.Smith) bool {
	if wantIsGone(s) {
		return true
	}
	if !isFrom(s.State, 1, 3) || !isFrom(s.Rank, -5, 5) {
		return false
	}
	return isFrom(s.Bench, 0, 7) && isFrom(s.May, 1, 255) && isFrom(s.Guild, -1, 5) &&
		isFrom(s.Low, 0, s.High) && isFrom(s.High, s.Low, 1024) && isFrom(s.Had, leastHad, mostHad) &&
		isFrom(s.Carry, 0, weightAt(s.Rank)-1) && isFrom(s.Util, 0, 1024) && isFrom(s.Work, 0, mostWork)
}

func wantCharged(s impl.Smith, work int64) (impl.Smith, bool) {
	if !wantSmithOk(s) {
		return impl.Smith{}, false
	}
	if wantIsGone(s) || !isFrom(work, 0, mostCharge) {
		return s, false
	}
	share, left := wantShare(work, weightAt(s.Rank), s.Carry)
	if share > mostHad-s.Had || work > mostWork-s.Work {
		return s, false
	}
	return impl.Smith{
		State: s.State, Bench: s.Bench, Rank: s.Rank, May: s.May, Guild: s.Guild, Low: s.Low, High: s.High,
		Had: s.Had + share, Carry: left, Util: s.Util, Work: s.Work + work,
	}, true
}

// wantReranked takes the weight away as often as it can be, where the program divides.
func wantReranked(s impl.Smith, rank int64) (impl.Smith, bool) {
	if !wantSmithOk(s) {
		return impl.Smith{}, false
	}
	if wantIsGone(s) || !isFrom(rank, -5, 5) {
		return s, false
	}
	carry := s.Carry
	for carry >= weightAt(rank) {
		carry -= weightAt(rank)
	}
	return impl.Smith{
		State: s.State, Bench: s.Bench, Rank: rank, May: s.May, Guild: s.Guild, Low: s.Low, High: s.High,
		Had: s.Had, Carry: carry, Util: s.Util, Work: s.Work,
	}, true
}

func checkSmithOk(t *testing.T, s impl.Smith) {
	t.Helper()
	if got := impl.SmithOk(s); got != wantSmithOk(s) {
		t.Fatalf("SmithOk(%+v) = %v", s, got)
	}
}

func checkCharged(t *testing.T, s impl.Smith, work int64) {
	t.Helper()
	want, wantIs := wantCharged(s, work)
	if got, is := impl.Charged(s, work); got != want || is != wantIs {
		t.Fatalf("Charged(%+v, %d) = %+v, %v, not %+v, %v", s, work, got, is, want, wantIs)
	}
}

func checkReranked(t *testing.T, s impl.Smith, rank int64) {
	t.Helper()
	want, wantIs := wantReranked(s, rank)
	if got, is := impl.Reranked(s, rank); got != want || is != wantIs {
		t.Fatalf("Reranked(%+v, %d) = %+v, %v, not %+v, %v", s, rank, got, is, want, wantIs)
	}
}

// checkSmith asks all that the chapter tells of a Smith, right or wrong.
func checkSmith(t *testing.T, s impl.Smith) {
	t.Helper()
	checkSmithOk(t, s)
	for _, work := range []int64{-1, 0, 1, 10, 99999, 100000, 100001} {
		checkCharged(t, s, work)
	}
	for rank := int64(-6); rank <= 6; rank++ {
		checkReranked(t, s, rank)
	}
}

// mustCharge charges what can be charged, and holds the answer against promise 9 by its words: 1024 times the work and
// the Carry there was are the weight times what Had grew by, and the Carry that is left.
func mustCharge(t *testing.T, s impl.Smith, work int64) impl.Smith {
	t.Helper()
	x, is := impl.Charged(s, work)
	if !is || !impl.SmithOk(x) {
		t.Fatalf("Charged(%+v, %d) = %+v, %v", s, work, x, is)
	}
	if 1024*work+s.Carry != weightAt(s.Rank)*(x.Had-s.Had)+x.Carry || x.Work-s.Work != work {
		t.Fatalf("Charged(%+v, %d) = %+v loses something", s, work, x)
	}
	return x
}

func mustRerank(t *testing.T, s impl.Smith, rank int64) impl.Smith {
	t.Helper()
	x, is := impl.Reranked(s, rank)
	if !is || !impl.SmithOk(x) {
		t.Fatalf("Reranked(%+v, %d) = %+v, %v", s, rank, x, is)
	}
	return x
}

// rightSmiths holds smiths that are away, wait and work, of every rank, with Carries from the least to the greatest.
func rightSmiths() []impl.Smith {
	list := []impl.Smith{}
	for _, state := range []int64{impl.SmAway, impl.SmWaits, impl.SmWorks} {
		for rank := int64(-5); rank <= 5; rank++ {
			weight := weightAt(rank)
			for _, carry := range []int64{0, 1, weight / 2, weight - 2, weight - 1} {
				list = append(list, smithWith(func(s *impl.Smith) { s.State, s.Rank, s.Carry = state, rank, carry }))
			}
		}
	}
	return list
}

func TestSmithConstants(t *testing.T) {
	if impl.SmGone != 0 || impl.SmAway != 1 || impl.SmWaits != 2 || impl.SmWorks != 3 || impl.MaxWork != 100000000000 {
		t.Fatal(impl.SmGone, impl.SmAway, impl.SmWaits, impl.SmWorks, impl.MaxWork)
	}
}

func TestSmithOkCases(t *testing.T) {
	least := impl.Smith{State: 1, Bench: 0, Rank: -5, May: 1, Guild: -1, Low: 0, High: 0, Had: -1000000000000, Carry: 0, Util: 0, Work: 0}
	most := impl.Smith{State: 3, Bench: 7, Rank: 5, May: 255, Guild: 5, Low: 1024, High: 1024, Had: 1000000000000, Carry: 334, Util: 1024, Work: 100000000000}
	heaviest := impl.Smith{State: 2, Rank: -5, May: 128, Guild: 0, High: 1024, Carry: 3124}
	cases := []struct {
		s    impl.Smith
		want bool
	}{
		{impl.Smith{}, true}, {least, true}, {most, true}, {heaviest, true}, {someSmith(), true},
		{impl.Smith{State: 1}, false}, {impl.Smith{State: 2}, false}, {impl.Smith{State: 3}, false}, {impl.Smith{State: 1, High: 5}, false},
		{impl.Smith{State: 1, May: 1}, true}, {impl.Smith{State: 2, May: 1}, true}, {impl.Smith{State: 3, May: 1}, true},
		{impl.Smith{State: 0, May: 1}, false}, {impl.Smith{State: 4, May: 1}, false}, {impl.Smith{State: -1, May: 1}, false},
		{impl.Smith{Guild: -1}, false}, {impl.Smith{Util: 1}, false}, {impl.Smith{High: 1024}, false},
	}
	for _, k := range cases {
		if got := impl.SmithOk(k.s); got != k.want {
			t.Errorf("SmithOk(%+v) = %v", k.s, got)
		}
	}
}

func TestChargedCases(t *testing.T) {
	cases := []struct {
		rank, had, carry, done, work   int64
		wantHad, wantCarry, wantedWork int64
	}{
		{0, 0, 1000, 0, 10, 10, 1000, 10}, {0, 0, 0, 0, 0, 0, 0, 0}, {0, -7, 1023, 5, 0, -7, 1023, 5}, {0, -7, 1023, 5, 7, 0, 1023, 12},
		{0, 0, 0, 0, 100000, 100000, 0, 100000}, {5, 0, 0, 0, 1, 3, 19, 1}, {5, 100, 330, 50, 1, 104, 14, 51}, {5, 100, 316, 50, 1, 104, 0, 51},
		{-5, 0, 0, 0, 1, 0, 1024, 1}, {-5, 0, 1024, 0, 1, 0, 2048, 1}, {-5, 0, 2048, 0, 1, 0, 3072, 1}, {-5, 0, 3072, 0, 1, 1, 971, 1},
		{-5, 0, 2101, 0, 1, 1, 0, 1}, {-5, 0, 2100, 0, 1, 0, 3124, 1}, {-5, 0, 0, 0, 100000, 32768, 0, 100000}, {5, 0, 0, 0, 100000, 305671, 215, 100000},
		{1, 0, 818, 0, 100000, 125031, 429, 100000}, {-1, 5000, 7, 12345, 10, 5008, 7, 12355},
		{0, mostHad - 10, 0, 0, 10, mostHad, 0, 10}, {0, 0, 0, mostWork - 10, 10, 10, 0, mostWork}, {0, leastHad, 0, 0, 10, leastHad + 10, 0, 10},
	}
	for _, k := range cases {
		s := smithWith(func(s *impl.Smith) { s.Rank, s.Had, s.Carry, s.Work = k.rank, k.had, k.carry, k.done })
		want := smithWith(func(s *impl.Smith) { s.Rank, s.Had, s.Carry, s.Work = k.rank, k.wantHad, k.wantCarry, k.wantedWork })
		if got, is := impl.Charged(s, k.work); got != want || !is {
			t.Errorf("Charged(%+v, %d) = %+v, %v, not %+v", s, k.work, got, is, want)
		}
	}
}

func TestRerankedCases(t *testing.T) {
	cases := []struct{ rank, carry, to, want int64 }{
		{0, 1000, 5, 330}, {0, 1000, 0, 1000}, {0, 0, 5, 0}, {0, 335, 5, 0}, {0, 334, 5, 334}, {0, 336, 5, 1}, {0, 1023, 5, 18}, {0, 1023, 1, 204},
		{0, 819, 1, 0}, {0, 818, 1, 818}, {0, 1023, -5, 1023}, {-5, 3124, 5, 109}, {-5, 3124, 0, 52}, {-5, 3124, -4, 624}, {-5, 3124, -5, 3124},
		{-5, 2500, -4, 0}, {-5, 2499, -4, 2499}, {5, 334, -5, 334}, {5, 334, 4, 334}, {4, 418, 5, 83}, {3, 523, 4, 104}, {2, 654, 3, 130},
	}
	for _, k := range cases {
		s := smithWith(func(s *impl.Smith) { s.Rank, s.Carry = k.rank, k.carry })
		want := smithWith(func(s *impl.Smith) { s.Rank, s.Carry = k.to, k.want })
		if got, is := impl.Reranked(s, k.to); got != want || !is {
			t.Errorf("Reranked(%+v, %d) = %+v, %v, not %+v", s, k.to, got, is, want)
		}
	}
}

// A smith that is gone is right with all else zero, and is neither charged nor of another rank; with any one field that
// is not zero it is no smith.
func TestWhoIsGone(t *testing.T) {
	gone := impl.Smith{State: impl.SmGone}
	if !impl.SmithOk(gone) {
		t.Fatal("who is gone is not right")
	}
	for work := int64(-2); work <= mostCharge+2; work++ {
		if x, is := impl.Charged(gone, work); x != gone || is {
			t.Fatalf("who is gone was charged %d: %+v, %v", work, x, is)
		}
	}
	for rank := int64(-12); rank <= 12; rank++ {
		if x, is := impl.Reranked(gone, rank); x != gone || is {
			t.Fatalf("who is gone has rank %d: %+v, %v", rank, x, is)
		}
	}
	some := someSmith()
	for i := 1; i < len(smithFields); i++ {
		for _, n := range append([]int64{-5, -1, 1, 5, 255, 1024, *fieldOf(&some, i)}, wrongInAnyField...) {
			s := gone
			*fieldOf(&s, i) = n
			if impl.SmithOk(s) {
				t.Fatalf("who is gone is right with %s %d", smithFields[i], n)
			}
			checkSmith(t, s)
		}
	}
	some.State = impl.SmGone
	if impl.SmithOk(some) {
		t.Fatalf("SmithOk(%+v)", some)
	}
	checkSmith(t, some)
}

// Each field of a smith at both its limits and at one past each, all else as it should be.
func TestEachFieldAtItsLimits(t *testing.T) {
	base := impl.Smith{State: impl.SmWaits, Bench: 3, Rank: 0, May: 137, Guild: 4, Low: 0, High: 1024, Had: 0, Carry: 0, Util: 300, Work: 12345}
	limits := []struct{ least, most int64 }{
		{1, 3}, {0, 7}, {-5, 5}, {1, 255}, {-1, 5}, {0, 1024}, {0, 1024}, {leastHad, mostHad}, {0, 1023}, {0, 1024}, {0, mostWork},
	}
	for i, limit := range limits {
		for _, k := range []struct {
			n    int64
			want bool
		}{{limit.least - 1, false}, {limit.least, true}, {limit.least + 1, true}, {limit.most - 1, true}, {limit.most, true}, {limit.most + 1, false}} {
			s := base
			*fieldOf(&s, i) = k.n
			if got := impl.SmithOk(s); got != k.want {
				t.Errorf("SmithOk(%+v) = %v, of %s %d", s, got, smithFields[i], k.n)
			}
			checkSmith(t, s)
		}
	}
	for n := int64(-3); n <= 1030; n++ {
		for i := range limits {
			s := base
			*fieldOf(&s, i) = n
			checkSmith(t, s)
		}
	}
}

func TestLowIsNotAboveHigh(t *testing.T) {
	numbers := []int64{-1, 0, 1, 2, 499, 500, 501, 1022, 1023, 1024, 1025}
	for _, low := range numbers {
		for _, high := range numbers {
			s := smithWith(func(s *impl.Smith) { s.Low, s.High = low, high })
			if got := impl.SmithOk(s); got != (low >= 0 && low <= high && high <= 1024) {
				t.Errorf("SmithOk is %v of Low %d and High %d", got, low, high)
			}
			checkSmith(t, s)
		}
	}
}

// What may be carried hangs on the rank: of each one 0 and its weight less 1 are, and one past each is not.
func TestCarryIsBelowTheWeight(t *testing.T) {
	for rank := int64(-5); rank <= 5; rank++ {
		for carry := int64(-5); carry <= 3130; carry++ {
			s := smithWith(func(s *impl.Smith) { s.Rank, s.Carry = rank, carry })
			if got := impl.SmithOk(s); got != (carry >= 0 && carry < weightAt(rank)) {
				t.Fatalf("SmithOk is %v of rank %d with Carry %d", got, rank, carry)
			}
		}
	}
	for _, rank := range noRanks {
		for _, carry := range []int64{-1, 0, 1, 334, 1023, 3124} {
			checkSmith(t, smithWith(func(s *impl.Smith) { s.Rank, s.Carry = rank, carry }))
		}
	}
}

// Promise 9, of smiths that are away, wait and work, of every rank: what is charged is not lost, and nothing else of
// the smith is changed.
func TestWhatIsChargedIsNotLost(t *testing.T) {
	for _, s := range rightSmiths() {
		for _, work := range []int64{0, 1, 2, 3, 9, 10, 335, 1000, 1023, 1024, 1025, 3124, 3125, 3126, 20480, 99999, 100000} {
			x := mustCharge(t, s, work)
			checkCharged(t, s, work)
			x.Had, x.Carry, x.Work = s.Had, s.Carry, s.Work
			if x != s {
				t.Fatalf("Charged(%+v, %d) changes more than it should: %+v", s, work, x)
			}
		}
	}
}

func TestEveryWorkIsCharged(t *testing.T) {
	for rank := int64(-5); rank <= 5; rank++ {
		s := smithWith(func(s *impl.Smith) { s.Rank, s.Carry = rank, weightAt(rank)-1 })
		for work := int64(-3); work <= mostCharge+3; work++ {
			if x, is := impl.Charged(s, work); is != isFrom(work, 0, mostCharge) || !is && x != s {
				t.Fatalf("Charged(%+v, %d) = %+v, %v", s, work, x, is)
			} else if is {
				mustCharge(t, s, work)
			}
		}
	}
}

func TestEveryCarryIsCharged(t *testing.T) {
	for rank := int64(-5); rank <= 5; rank++ {
		for carry := range weightAt(rank) {
			s := smithWith(func(s *impl.Smith) { s.Rank, s.Carry = rank, carry })
			for _, work := range []int64{0, 1, 2, 3, 777, 100000} {
				mustCharge(t, s, work)
				checkCharged(t, s, work)
			}
		}
	}
}

// Promise 9: work charged at once and in parts, in any order, comes to the same.
func TestAtOnceAndInParts(t *testing.T) {
	parts := [][]int64{
		{0, 0}, {0, 1}, {1, 1}, {1, 1, 1, 1, 1, 1, 1, 1, 1, 1}, {50000, 50000}, {99999, 1}, {1, 99999}, {33333, 33333, 33334},
		{5, 7, 11, 13, 1024, 335, 3125, 819}, {100000, 0, 0}, slices.Repeat([]int64{17}, 1000), slices.Repeat([]int64{1}, 5000),
	}
	for _, s := range rightSmiths() {
		for _, list := range parts {
			x, back, sum := s, s, int64(0)
			for i, work := range list {
				x = mustCharge(t, x, work)
				back = mustCharge(t, back, list[len(list)-1-i])
				sum += work
			}
			if once := mustCharge(t, s, sum); x != once || back != once {
				t.Fatalf("%+v charged %v is %+v, the other way round %+v, and with %d at once %+v", s, list, x, back, sum, once)
			}
		}
	}
}

// Promise 9 over a long while, from the least Had up: all that was worked is in Work, in Had by its weight, and in Carry.
func TestNothingIsLostOverALongWhile(t *testing.T) {
	for rank := int64(-5); rank <= 5; rank++ {
		start := smithWith(func(s *impl.Smith) { s.Rank, s.Carry, s.Had, s.Work = rank, 3, leastHad, 0 })
		x, sum := start, int64(0)
		for i := range int64(20000) {
			work := i * 7919 % (mostCharge + 1)
			x = mustCharge(t, x, work)
			sum += work
		}
		if x.Work != sum || 1024*sum+start.Carry != weightAt(rank)*(x.Had-start.Had)+x.Carry {
			t.Fatalf("%+v with %d worked is %+v", start, sum, x)
		}
	}
}

// Work by which Work meets its limit just, and by which it passes it by one.
func TestWorkMeetsItsLimit(t *testing.T) {
	for _, s := range rightSmiths() {
		for _, room := range []int64{0, 1, 2, 10, 1024, 99998, 99999, 100000, 100001} {
			s.Work = mostWork - room
			for work := max(room-2, -1); work <= room+2; work++ {
				x, is := impl.Charged(s, work)
				if is != (work >= 0 && work <= room && work <= mostCharge) || !is && x != s {
					t.Fatalf("Charged(%+v, %d) = %+v, %v", s, work, x, is)
				}
				checkCharged(t, s, work)
			}
		}
		s.Work = mostWork
		if x, is := impl.Charged(s, 0); x != s || !is {
			t.Fatalf("Charged(%+v, 0) = %+v, %v", s, x, is)
		}
	}
}

// Work by which Had meets its limit just, and by which it passes it by one, of every rank and with every kind of Carry.
func TestHadMeetsItsLimit(t *testing.T) {
	for _, s := range rightSmiths() {
		for _, work := range []int64{0, 1, 2, 3, 4, 10, 335, 1024, 3125, 99999, 100000} {
			share, _ := wantShare(work, weightAt(s.Rank), s.Carry)
			for past := int64(-2); past <= 2; past++ {
				s.Had = mostHad - share + past
				if s.Had > mostHad {
					continue
				}
				x, is := impl.Charged(s, work)
				if is != (past <= 0) || !is && x != s || is && x.Had != mostHad+past {
					t.Fatalf("Charged(%+v, %d) = %+v, %v", s, work, x, is)
				}
				checkCharged(t, s, work)
			}
		}
	}
	both := smithWith(func(s *impl.Smith) { s.Rank, s.Carry, s.Had, s.Work = 0, 0, mostHad-10, mostWork-10 })
	for work := int64(0); work <= 20; work++ {
		if x, is := impl.Charged(both, work); is != (work <= 10) || !is && x != both {
			t.Fatalf("Charged(%+v, %d) = %+v, %v", both, work, x, is)
		}
	}
}

// A rank and another one, of all: only Rank and Carry are others then; and what was below the other weight, there and
// back, is the same.
func TestRerankedThereAndBack(t *testing.T) {
	for rank := int64(-5); rank <= 5; rank++ {
		for other := int64(-5); other <= 5; other++ {
			for carry := range weightAt(rank) {
				s := smithWith(func(s *impl.Smith) { s.Rank, s.Carry = rank, carry })
				there := mustRerank(t, s, other)
				checkReranked(t, s, other)
				back := mustRerank(t, there, rank)
				if want := carry % weightAt(other) % weightAt(rank); back.Carry != want || carry < weightAt(other) && back != s {
					t.Fatalf("%+v is %+v with rank %d, and %+v back again", s, there, other, back)
				}
				there.Rank, there.Carry = s.Rank, s.Carry
				if there != s {
					t.Fatalf("Reranked(%+v, %d) changes more than it should: %+v", s, other, there)
				}
			}
		}
	}
}

// Neither limit of Had or of Work stands in the way of another rank.
func TestRerankedAtTheLimits(t *testing.T) {
	for _, s := range rightSmiths() {
		for _, had := range []int64{leastHad, 0, mostHad} {
			for _, work := range []int64{0, mostWork} {
				s.Had, s.Work = had, work
				for rank := int64(-5); rank <= 5; rank++ {
					mustRerank(t, s, rank)
					checkReranked(t, s, rank)
				}
			}
		}
	}
}

// What can't be charged, and what is no rank, is refused: a right smith is answered as it is.
func TestWrongWorksAndRanksAreRefused(t *testing.T) {
	for _, s := range append(rightSmiths(), impl.Smith{}) {
		for _, work := range noCharges {
			if x, is := impl.Charged(s, work); x != s || is {
				t.Fatalf("Charged(%+v, %d) = %+v, %v", s, work, x, is)
			}
		}
		for _, rank := range noRanks {
			if x, is := impl.Reranked(s, rank); x != s || is {
				t.Fatalf("Reranked(%+v, %d) = %+v, %v", s, rank, x, is)
			}
		}
	}
}

// checkNoSmith asks for the zero Smith of one that is wrong, with all kinds of work and of ranks.
func checkNoSmith(t *testing.T, s impl.Smith) {
	t.Helper()
	if impl.SmithOk(s) {
		t.Fatalf("SmithOk(%+v) is true", s)
	}
	for _, work := range append([]int64{0, 1, 100000}, noCharges...) {
		if x, is := impl.Charged(s, work); x != (impl.Smith{}) || is {
			t.Fatalf("Charged(%+v, %d) = %+v, %v", s, work, x, is)
		}
	}
	for _, rank := range append([]int64{-5, 0, 5, s.Rank}, noRanks...) {
		if x, is := impl.Reranked(s, rank); x != (impl.Smith{}) || is {
			t.Fatalf("Reranked(%+v, %d) = %+v, %v", s, rank, x, is)
		}
	}
}

// The least and the greatest int64, and numbers between, in each field, in each two and in all of them.
func TestWrongNumbersInEveryField(t *testing.T) {
	states := []int64{impl.SmGone, impl.SmAway, impl.SmWaits, impl.SmWorks}
	for _, n := range wrongInAnyField {
		for i := range smithFields {
			for _, state := range states {
				s := smithWith(func(s *impl.Smith) { s.State = state })
				*fieldOf(&s, i) = n
				checkNoSmith(t, s)
				for j := range i {
					for _, m := range wrongInAnyField {
						two := s
						*fieldOf(&two, j) = m
						checkNoSmith(t, two)
					}
				}
			}
		}
		for _, state := range append(states, n) {
			all := impl.Smith{}
			for i := range smithFields {
				*fieldOf(&all, i) = n
			}
			all.State = state
			checkNoSmith(t, all)
		}
	}
}

// What is out of range of one field alone, in that field.
func TestWrongNumbersOfEachField(t *testing.T) {
	lists := [][]int64{
		{math.MinInt64, -1, 4, 5, 256, 1<<32 + 2, math.MaxInt64}, noBenches, noRanks, append([]int64{0}, noSets...),
		{math.MinInt64, math.MinInt64 + 4, -1 << 32, -7, -3, -2, 6, 7, 256, 1<<32 + 4, math.MaxInt64},
		noBounds, noBounds, noHads, {math.MinInt64, -1, 1280, 1281, 3125, 1 << 32, 1<<32 + 7, math.MaxInt64}, noBounds, noWorks,
	}
	for i, list := range lists {
		for _, n := range list {
			s := someSmith()
			*fieldOf(&s, i) = n
			checkNoSmith(t, s)
		}
	}
}

// Every smith of few numbers in each field, right and wrong ones, held against a reckoning.
func TestSmithsHeldAgainstAReckoning(t *testing.T) {
	numbers := []int64{-6, -1, 0, 1, 3, 5, 255, 334, 1023, 1024, 3124, mostWork, mostHad}
	for i := range smithFields {
		for j := range i {
			for k := range j {
				for _, a := range numbers {
					for _, b := range numbers {
						for _, c := range numbers {
							s := someSmith()
							*fieldOf(&s, i), *fieldOf(&s, j), *fieldOf(&s, k) = a, b, c
							checkSmithOk(t, s)
							checkCharged(t, s, 100000)
							checkReranked(t, s, 5)
						}
					}
				}
			}
		}
	}
}
