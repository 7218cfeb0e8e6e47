package tests

import (
	"math"
	"math/big"
	"slices"
	"testing"

	"loop.example/g00553/impl"
)

const noSpare = -million - 1

// amounts holds numbers from 0 to a million: the limits and those beside them, and some of which four fifths are whole
// or nearly so.
var amounts = []int64{
	0, 1, 2, 3, 4, 5, 6, 8, 10, 40, 41, 80, 81, 99, 100, 101, 160, 200, 819, 820, 1024, 65536,
	399999, 400000, 400001, 499999, 500000, 500001, 799999, 800000, 800001, million - 2, million - 1, million,
}

// noAmounts adds to noNeeds what would be small, or right as a force, once it is taken 4 or 5 times and wraps round: 4
// times 1<<62+100 is 400 then, and 5 times the last one is 6.
var noAmounts = slices.Concat(noNeeds, []int64{
	math.MinInt64 + 100, math.MinInt64/4 - 1, -1 << 62, -1<<62 + 100, math.MaxInt64/4 + 1, 1<<61 + 100, 1<<62 + 100, -3689348814741910322,
})

func areAmounts(list ...int64) bool {
	return !slices.ContainsFunc(list, func(n int64) bool { return !isFrom(n, 0, million) })
}

// wantIsAbove tells whether 5 times the loads together are above 4 times force, reckoned without any bound on size.
func wantIsAbove(force int64, loads ...int64) bool {
	sum := new(big.Int)
	for _, n := range loads {
		sum.Add(sum, big.NewInt(n))
	}
	sum.Mul(sum, big.NewInt(5))
	return sum.Cmp(new(big.Int).Mul(big.NewInt(force), big.NewInt(4))) > 0
}

func wantFitsIn(want, used, force int64) bool {
	return areAmounts(want, used, force) && !wantIsAbove(force, want, used)
}

func wantTooMuch(used, force int64) bool {
	return areAmounts(used, force) && wantIsAbove(force, used)
}

func wantSpareOf(used, force int64) int64 {
	if !areAmounts(used, force) {
		return noSpare
	}
	return new(big.Int).Sub(big.NewInt(force), big.NewInt(used)).Int64()
}

func checkFitsIn(t *testing.T, want, used, force int64) {
	t.Helper()
	if got := impl.FitsIn(want, used, force); got != wantFitsIn(want, used, force) {
		t.Fatalf("FitsIn(%d, %d, %d) = %v", want, used, force, got)
	}
}

func checkUsed(t *testing.T, used, force int64) {
	t.Helper()
	if got := impl.TooMuch(used, force); got != wantTooMuch(used, force) {
		t.Fatalf("TooMuch(%d, %d) = %v", used, force, got)
	}
	if got, want := impl.SpareOf(used, force), wantSpareOf(used, force); got != want {
		t.Fatalf("SpareOf(%d, %d) = %d, not %d", used, force, got, want)
	}
}

// checkPromise holds promise 7 for one choice of arguments, and what it rests on: where the sum is an amount too, what
// does not fit is too much.
func checkPromise(t *testing.T, want, used, force int64) {
	t.Helper()
	together := want + used
	fits := impl.FitsIn(want, used, force)
	if fits && impl.TooMuch(together, force) {
		t.Fatalf("FitsIn(%d, %d, %d), and TooMuch(%d, %d)", want, used, force, together, force)
	}
	if fits && (impl.TooMuch(used, force) || impl.TooMuch(want, force)) {
		t.Fatalf("FitsIn(%d, %d, %d), and one of them is TooMuch alone", want, used, force)
	}
	if fits && impl.SpareOf(together, force) < 0 {
		t.Fatalf("FitsIn(%d, %d, %d), and SpareOf(%d, %d) is below 0", want, used, force, together, force)
	}
	if !fits && together <= million && !impl.TooMuch(together, force) {
		t.Fatalf("neither FitsIn(%d, %d, %d) nor TooMuch(%d, %d)", want, used, force, together, force)
	}
}

func TestFitsInCases(t *testing.T) {
	cases := []struct {
		want, used, force int64
		fits              bool
	}{
		{40, 40, 100, true}, {41, 40, 100, false}, {40, 41, 100, false}, {40, 40, 99, false}, {40, 40, 101, true},
		{80, 0, 100, true}, {81, 0, 100, false}, {0, 80, 100, true}, {0, 81, 100, false}, {1, 80, 100, false},
		{0, 0, 0, true}, {1, 0, 0, false}, {0, 1, 0, false}, {0, 0, 1, true}, {1, 0, 1, false}, {0, 1, 1, false},
		{1, 0, 2, true}, {1, 1, 2, false}, {1, 1, 3, true}, {2, 2, 5, true}, {3, 2, 5, false}, {2, 3, 5, false},
		{0, 0, million, true}, {400000, 400000, million, true}, {800000, 0, million, true}, {0, 800000, million, true},
		{400001, 400000, million, false}, {400000, 400001, million, false}, {800001, 0, million, false}, {0, 800001, million, false},
		{million, 0, million, false}, {0, million, million, false}, {million, million, million, false},
		{million, 0, 0, false}, {0, million, 0, false}, {million, million, 0, false},
		{-1, 0, 100, false}, {0, -1, 100, false}, {0, 0, -1, false}, {-1, 1, 100, false}, {1, -1, 100, false}, {-1, -1, 100, false},
		{-1, -1, -1, false}, {-100, 0, -100, false}, {0, 0, million + 1, false}, {40, 40, million + 1, false}, {800000, 0, million + 1, false},
		{million + 1, 0, million, false}, {0, million + 1, million, false}, {million + 1, -million - 1, million, false},
		{million + 1, million + 1, million + 1, false}, {million + 1, 0, 2 * million, false}, {0, million + 1, 2 * million, false},
		{math.MinInt64, 0, 100, false}, {0, math.MinInt64, 100, false}, {0, 0, math.MinInt64, false},
		{math.MaxInt64, 0, 100, false}, {0, math.MaxInt64, 100, false}, {0, 0, math.MaxInt64, false},
		{math.MinInt64, math.MinInt64, math.MinInt64, false}, {math.MaxInt64, math.MaxInt64, math.MaxInt64, false},
		{math.MinInt64, math.MinInt64, 100, false}, {math.MaxInt64, math.MaxInt64, 100, false}, {math.MinInt64, math.MaxInt64, 100, false},
		{math.MaxInt64, math.MinInt64, 100, false}, {math.MaxInt64, 1, 100, false}, {1, math.MaxInt64, 100, false},
	}
	for _, k := range cases {
		if got := impl.FitsIn(k.want, k.used, k.force); got != k.fits {
			t.Errorf("FitsIn(%d, %d, %d) = %v", k.want, k.used, k.force, got)
		}
	}
}

func TestTooMuchCases(t *testing.T) {
	cases := []struct {
		used, force int64
		is          bool
	}{
		{80, 100, false}, {81, 100, true}, {79, 100, false}, {80, 99, true}, {81, 101, true}, {81, 102, false}, {100, 100, true},
		{0, 0, false}, {1, 0, true}, {0, 1, false}, {1, 1, true}, {1, 2, false}, {4, 5, false}, {5, 5, true}, {4, 4, true},
		{800000, million, false}, {800001, million, true}, {million, million, true}, {million, 0, true}, {0, million, false},
		{-1, 0, false}, {0, -1, false}, {-1, -1, false}, {million, -1, false}, {1, -1, false}, {-1, -100, false}, {-1, million, false},
		{million + 1, 0, false}, {million + 1, million, false}, {million, million + 1, false}, {0, million + 1, false},
		{million + 1, million + 1, false}, {million + 1, -1, false}, {-1, million + 1, false},
		{math.MinInt64, 0, false}, {0, math.MinInt64, false}, {1, math.MinInt64, false}, {million, math.MinInt64, false},
		{math.MaxInt64, 0, false}, {0, math.MaxInt64, false}, {1, math.MaxInt64, false}, {million, math.MaxInt64, false},
		{math.MinInt64, math.MinInt64, false}, {math.MaxInt64, math.MaxInt64, false}, {math.MaxInt64, math.MinInt64, false},
		{math.MinInt64, math.MaxInt64, false},
	}
	for _, k := range cases {
		if got := impl.TooMuch(k.used, k.force); got != k.is {
			t.Errorf("TooMuch(%d, %d) = %v", k.used, k.force, got)
		}
	}
}

func TestSpareOfCases(t *testing.T) {
	cases := []struct{ used, force, want int64 }{
		{30, 100, 70}, {99, 100, 1}, {100, 100, 0}, {101, 100, -1}, {130, 100, -30}, {0, 100, 100}, {100, 0, -100},
		{0, 0, 0}, {1, 0, -1}, {0, 1, 1}, {0, million, million}, {million, 0, -million}, {million, million, 0},
		{1, million, million - 1}, {million, 1, 1 - million}, {million - 1, million, 1}, {million, million - 1, -1},
		{-1, 0, noSpare}, {0, -1, noSpare}, {-1, -1, noSpare}, {-1, million, noSpare}, {million, -1, noSpare},
		{million + 1, 0, noSpare}, {0, million + 1, noSpare}, {million + 1, million + 1, noSpare}, {million + 1, million, noSpare},
		{million, million + 1, noSpare}, {million + 1, -1, noSpare}, {-1, million + 1, noSpare},
		{math.MinInt64, 0, noSpare}, {0, math.MinInt64, noSpare}, {math.MaxInt64, 0, noSpare}, {0, math.MaxInt64, noSpare},
		{math.MinInt64, math.MinInt64, noSpare}, {math.MaxInt64, math.MaxInt64, noSpare}, {math.MinInt64, math.MaxInt64, noSpare},
		{math.MaxInt64, math.MinInt64, noSpare},
	}
	for _, k := range cases {
		if got := impl.SpareOf(k.used, k.force); got != k.want {
			t.Errorf("SpareOf(%d, %d) = %d, not %d", k.used, k.force, got, k.want)
		}
	}
}

// Promise 7, of all that is small and of all choices of amounts up to the limits.
func TestWhatFitsInIsNotTooMuch(t *testing.T) {
	for want := int64(0); want <= 80; want++ {
		for used := int64(0); used <= 80; used++ {
			for force := int64(0); force <= 110; force++ {
				checkPromise(t, want, used, force)
			}
		}
	}
	for _, want := range amounts {
		for _, used := range amounts {
			for _, force := range amounts {
				checkPromise(t, want, used, force)
			}
		}
	}
}

// Promise 7 again: whoever has come fits in with all that came ahead of it, up to the one that would be too much.
func TestBenchesAreFilledUntilOneWouldBeTooMuch(t *testing.T) {
	for _, force := range []int64{0, 1, 5, 100, 512, 1024, 65536, million} {
		for _, want := range []int64{1, 3, 7, 100, 1024} {
			used, came := int64(0), int64(0)
			for impl.FitsIn(want, used, force) {
				used += want
				came++
				if impl.TooMuch(used, force) {
					t.Fatalf("TooMuch(%d, %d), and all of it did fit", used, force)
				}
			}
			if came != 4*force/5/want {
				t.Fatalf("%d of %d each fit in %d", came, want, force)
			}
			if !impl.TooMuch(used+want, force) {
				t.Fatalf("%d more than %d does not fit in %d, and is not TooMuch", want, used, force)
			}
		}
	}
}

// Of every force there is: 5 times what is used just 4 times it, or as near as can be, and one more.
func TestEveryForceAtWhatJustFits(t *testing.T) {
	for force := int64(0); force <= million; force++ {
		just := force - (force+4)/5
		for _, want := range []int64{0, just / 3, just} {
			if !impl.FitsIn(want, just-want, force) {
				t.Fatalf("FitsIn(%d, %d, %d) is false", want, just-want, force)
			}
			if impl.FitsIn(want, just-want+1, force) || impl.FitsIn(want+1, just-want, force) {
				t.Fatalf("one more than %d and %d fits in %d", want, just-want, force)
			}
		}
		if impl.TooMuch(just, force) || !impl.TooMuch(just+1, force) {
			t.Fatalf("TooMuch(%d, %d) = %v, and of one more %v", just, force, impl.TooMuch(just, force), impl.TooMuch(just+1, force))
		}
	}
}

// 5 times want and used together are just 4 times force where force is five of what want and used have four of.
func TestJustEqualFitsAndOnePastIsTooMuch(t *testing.T) {
	for n := int64(0); n <= 200000; n += 7 {
		if !impl.FitsIn(n, 3*n, 5*n) || !impl.FitsIn(4*n, 0, 5*n) || !impl.FitsIn(0, 4*n, 5*n) || impl.TooMuch(4*n, 5*n) {
			t.Fatalf("%d does not fit in %d", 4*n, 5*n)
		}
		if impl.FitsIn(n+1, 3*n, 5*n) || impl.FitsIn(n, 3*n+1, 5*n) || !impl.TooMuch(4*n+1, 5*n) {
			t.Fatalf("%d fits in %d", 4*n+1, 5*n)
		}
		if n > 0 && (impl.FitsIn(n, 3*n, 5*n-1) || !impl.TooMuch(4*n, 5*n-1)) {
			t.Fatalf("%d fits in %d", 4*n, 5*n-1)
		}
	}
}

func TestLessFitsInWhereMoreDoes(t *testing.T) {
	for _, want := range amounts {
		for _, used := range amounts {
			for _, force := range amounts {
				fits, is := impl.FitsIn(want, used, force), impl.TooMuch(used, force)
				for _, n := range amounts {
					if fits && (n < want && !impl.FitsIn(n, used, force) || n < used && !impl.FitsIn(want, n, force)) {
						t.Fatalf("FitsIn(%d, %d, %d), and %d in place of a greater one does not", want, used, force, n)
					}
					if fits && n > force && !impl.FitsIn(want, used, n) {
						t.Fatalf("FitsIn(%d, %d, %d), and not in %d", want, used, force, n)
					}
					if is && (n > used && !impl.TooMuch(n, force) || n < force && !impl.TooMuch(used, n)) {
						t.Fatalf("TooMuch(%d, %d), and not with %d", used, force, n)
					}
				}
			}
		}
	}
}

// Who is there already and who comes may change places.
func TestWantAndUsedCountAlike(t *testing.T) {
	numbers := slices.Concat(amounts, noAmounts)
	for _, want := range numbers {
		for _, used := range numbers {
			for _, force := range numbers {
				if impl.FitsIn(want, used, force) != impl.FitsIn(used, want, force) {
					t.Fatalf("FitsIn(%d, %d, %d) = %v, and changed about it is not", want, used, force, impl.FitsIn(want, used, force))
				}
			}
		}
	}
}

// Used and what is to spare are the force together.
func TestSpareAndUsedAreTheForce(t *testing.T) {
	for _, used := range amounts {
		for _, force := range amounts {
			got := impl.SpareOf(used, force)
			if got+used != force || got != -impl.SpareOf(force, used) {
				t.Fatalf("SpareOf(%d, %d) = %d", used, force, got)
			}
		}
	}
	for n := int64(0); n <= million; n++ {
		if impl.SpareOf(n, million) != million-n || impl.SpareOf(n, 0) != -n || impl.SpareOf(n, n) != 0 {
			t.Fatalf("SpareOf %d: of a million %d, of 0 %d, of itself %d", n, impl.SpareOf(n, million), impl.SpareOf(n, 0), impl.SpareOf(n, n))
		}
	}
}

// Every choice of right and wrong numbers, up to the extreme int64, in every place.
func TestUtilHeldAgainstAReckoning(t *testing.T) {
	numbers := slices.Concat(amounts, noAmounts)
	for _, used := range numbers {
		for _, force := range numbers {
			checkUsed(t, used, force)
			for _, want := range numbers {
				checkFitsIn(t, want, used, force)
			}
		}
	}
}

// What is out of range is out of range in every place, one at a time and all together.
func TestAmountsOutOfRange(t *testing.T) {
	for _, n := range noAmounts {
		for _, a := range amounts {
			for _, b := range amounts {
				if impl.FitsIn(n, a, b) || impl.FitsIn(a, n, b) || impl.FitsIn(a, b, n) {
					t.Fatalf("FitsIn of %d, with %d and %d", n, a, b)
				}
			}
			if impl.TooMuch(n, a) || impl.TooMuch(a, n) {
				t.Fatalf("TooMuch of %d, with %d", n, a)
			}
			if impl.SpareOf(n, a) != noSpare || impl.SpareOf(a, n) != noSpare {
				t.Fatalf("SpareOf(%d, %d) = %d, and changed about %d", n, a, impl.SpareOf(n, a), impl.SpareOf(a, n))
			}
		}
		if impl.FitsIn(n, n, n) || impl.TooMuch(n, n) || impl.SpareOf(n, n) != noSpare {
			t.Fatalf("of %d alone: %v, %v, %d", n, impl.FitsIn(n, n, n), impl.TooMuch(n, n), impl.SpareOf(n, n))
		}
	}
}
