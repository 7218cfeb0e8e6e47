package tests

import (
	"math"
	"slices"
	"testing"

	"loop.example/g00553/impl"
)

const mostBound = 1024

// noBounds holds what is neither a Low nor a High, nor the place of a guild; those that look like one in their lowest
// bits alone are among them.
var noBounds = []int64{
	math.MinInt64, math.MinInt64 + 1, math.MinInt64 + 300, math.MinInt32, -1 << 32, -1<<32 + 300, -billion, -1025, -1024, -256, -7, -2,
	1025, 1026, 2048, 65536, 65536 + 300, billion, math.MaxInt32, 1 << 32, 1<<32 + 300, 1 << 62, math.MaxInt64 - 1, math.MaxInt64,
}

func guild(above, low, high int64) impl.Guild {
	return impl.Guild{Above: above, Low: low, High: high}
}

func wantGuildsOk(l []impl.Guild) bool {
	if len(l) > 6 {
		return false
	}
	for i, g := range l {
		if !isFrom(g.Above, -1, int64(i)-1) || !isFrom(g.Low, 0, mostBound) || !isFrom(g.High, 0, mostBound) || g.Low > g.High {
			return false
		}
	}
	return true
}

// wantNarrowed takes the one in the middle of three, where the program takes the greater and then the lesser one.
func wantNarrowed(low, high, from, to int64) (int64, int64) {
	lows := []int64{low, from, to}
	slices.Sort(lows)
	highs := []int64{high, lows[1], to}
	slices.Sort(highs)
	return lows[1], highs[1]
}

// wantBounds goes through the whole list from its first guild on, where the program goes from the one asked for upwards.
func wantBounds(l []impl.Guild, g int64) (int64, int64) {
	if !wantGuildsOk(l) || !isFrom(g, -1, int64(len(l))-1) {
		return -1, -1
	}
	bounds := [][2]int64{{0, mostBound}}
	for _, own := range l {
		above := bounds[own.Above+1]
		low, high := wantNarrowed(own.Low, own.High, above[0], above[1])
		bounds = append(bounds, [2]int64{low, high})
	}
	return bounds[g+1][0], bounds[g+1][1]
}

func wantWithin(l []impl.Guild, g, low, high int64) (int64, int64) {
	from, to := wantBounds(l, g)
	if from < 0 || !isFrom(low, 0, mostBound) || !isFrom(high, 0, mostBound) || low > high {
		return -1, -1
	}
	return wantNarrowed(low, high, from, to)
}

// lendGuilds asks of the list with spare room behind it, where guilds stand that would be right if it were longer, and
// then that neither the list nor that room was written to.
func lendGuilds(t *testing.T, l []impl.Guild, ask func(l []impl.Guild)) {
	t.Helper()
	before := slices.Concat(l, []impl.Guild{guild(-1, 1, 2), guild(0, 3, 4), guild(-7, -7, -7)})
	whole := slices.Clone(before)
	ask(whole[:len(l)])
	if !slices.Equal(whole, before) {
		t.Fatalf("%v became %v", before, whole)
	}
}

func checkBounds(t *testing.T, l []impl.Guild, g int64) {
	t.Helper()
	wantLow, wantHigh := wantBounds(l, g)
	lendGuilds(t, l, func(l []impl.Guild) {
		if low, high := impl.Bounds(l, g); low != wantLow || high != wantHigh {
			t.Fatalf("Bounds(%v, %d) = %d, %d, not %d, %d", l, g, low, high, wantLow, wantHigh)
		}
	})
}

func checkWithin(t *testing.T, l []impl.Guild, g, low, high int64) {
	t.Helper()
	wantLow, wantHigh := wantWithin(l, g, low, high)
	lendGuilds(t, l, func(l []impl.Guild) {
		if a, b := impl.Within(l, g, low, high); a != wantLow || b != wantHigh {
			t.Fatalf("Within(%v, %d, %d, %d) = %d, %d, not %d, %d", l, g, low, high, a, b, wantLow, wantHigh)
		}
	})
}

func checkGuildsOk(t *testing.T, l []impl.Guild) {
	t.Helper()
	want := wantGuildsOk(l)
	lendGuilds(t, l, func(l []impl.Guild) {
		if got := impl.GuildsOk(l); got != want {
			t.Fatalf("GuildsOk(%v) = %v", l, got)
		}
	})
}

// checkGuilds asks of every place of the list, and of two past each end of it.
func checkGuilds(t *testing.T, l []impl.Guild) {
	t.Helper()
	checkGuildsOk(t, l)
	for g := int64(-3); g <= int64(len(l))+1; g++ {
		checkBounds(t, l, g)
		for _, asked := range [][2]int64{{0, 1024}, {0, 0}, {1024, 1024}, {300, 700}, {299, 701}, {500, 500}, {700, 300}, {-1, 5}, {5, 1025}} {
			checkWithin(t, l, g, asked[0], asked[1])
		}
	}
}

// checkAllAbove is promise 8 by its words, of every guild of a right list and of every one above it: those that its
// Above leads to, one after the other, and all guilds at the end.
func checkAllAbove(t *testing.T, l []impl.Guild) {
	t.Helper()
	if !impl.GuildsOk(l) {
		t.Fatalf("GuildsOk(%v) is false", l)
	}
	for g := range l {
		low, high := impl.Bounds(l, int64(g))
		if low > high {
			t.Fatalf("Bounds(%v, %d) = %d, %d", l, g, low, high)
		}
		for above := l[g].Above; ; above = l[above].Above {
			from, to := impl.Bounds(l, above)
			if low < from || high > to {
				t.Fatalf("Bounds(%v, %d) = %d, %d, and those of %d above are %d, %d", l, g, low, high, above, from, to)
			}
			if above == -1 {
				break
			}
		}
	}
}

// rightPairs holds every Low and High of these.
func rightPairs(numbers ...int64) [][2]int64 {
	pairs := [][2]int64{}
	for _, low := range numbers {
		for _, high := range numbers {
			if low <= high {
				pairs = append(pairs, [2]int64{low, high})
			}
		}
	}
	return pairs
}

// rightLists holds every list of that many guilds with these bounds, each below all guilds or below any one ahead.
func rightLists(length int, pairs [][2]int64) [][]impl.Guild {
	lists := [][]impl.Guild{nil}
	for place := range length {
		longer := [][]impl.Guild{}
		for _, l := range lists {
			for above := int64(-1); above < int64(place); above++ {
				for _, p := range pairs {
					longer = append(longer, slices.Concat(l, []impl.Guild{guild(above, p[0], p[1])}))
				}
			}
		}
		lists = longer
	}
	return lists
}

// sixGuilds holds every way for six guilds to stand below each other, each with bounds that narrow downwards, that widen,
// that lie apart, that cross, and that are all there is or a single number.
func sixGuilds() [][]impl.Guild {
	rows := [][6][2]int64{
		{{0, 1024}, {100, 900}, {200, 800}, {300, 700}, {400, 600}, {500, 500}},
		{{500, 500}, {400, 600}, {300, 700}, {200, 800}, {100, 900}, {0, 1024}},
		{{100, 500}, {50, 300}, {400, 1024}, {0, 10}, {1000, 1024}, {250, 350}},
		{{0, 100}, {200, 300}, {400, 500}, {600, 700}, {800, 900}, {1000, 1024}},
		{{1000, 1024}, {800, 900}, {600, 700}, {400, 500}, {200, 300}, {0, 100}},
		{{300, 700}, {299, 701}, {301, 699}, {0, 300}, {700, 1024}, {512, 512}},
		{{0, 0}, {1024, 1024}, {0, 1024}, {0, 1}, {1023, 1024}, {1, 1023}},
	}
	lists := [][]impl.Guild{}
	for _, shape := range rightLists(6, [][2]int64{{0, 0}}) {
		for _, row := range rows {
			l := []impl.Guild{}
			for i, g := range shape {
				l = append(l, guild(g.Above, row[i][0], row[i][1]))
			}
			lists = append(lists, l)
		}
	}
	return lists
}

// chain holds guilds each of which is below the one ahead of it.
func chain(pairs ...[2]int64) []impl.Guild {
	l := []impl.Guild{}
	for i, p := range pairs {
		l = append(l, guild(int64(i)-1, p[0], p[1]))
	}
	return l
}

func TestBoundsCases(t *testing.T) {
	given := []impl.Guild{guild(-1, 100, 500), guild(0, 50, 300), guild(1, 400, 1024)}
	six := chain([2]int64{100, 900}, [2]int64{0, 800}, [2]int64{200, 1024}, [2]int64{150, 700}, [2]int64{300, 750}, [2]int64{800, 1000})
	beside := []impl.Guild{guild(-1, 100, 200), guild(-1, 300, 400), guild(0, 350, 380), guild(1, 150, 380), guild(-1, 0, 1024)}
	cases := []struct {
		l            []impl.Guild
		g, low, high int64
	}{
		{nil, -1, 0, 1024}, {[]impl.Guild{}, -1, 0, 1024}, {given, -1, 0, 1024}, {six, -1, 0, 1024},
		{given, 0, 100, 500}, {given, 1, 100, 300}, {given, 2, 300, 300}, {given, 3, -1, -1}, {given, -2, -1, -1},
		{six, 0, 100, 900}, {six, 1, 100, 800}, {six, 2, 200, 800}, {six, 3, 200, 700}, {six, 4, 300, 700}, {six, 5, 700, 700}, {six, 6, -1, -1},
		{beside, 0, 100, 200}, {beside, 1, 300, 400}, {beside, 2, 200, 200}, {beside, 3, 300, 380}, {beside, 4, 0, 1024}, {beside, 5, -1, -1},
		{chain([2]int64{300, 700}, [2]int64{0, 1024}), 1, 300, 700}, {chain([2]int64{300, 700}, [2]int64{300, 700}), 1, 300, 700},
		{chain([2]int64{300, 700}, [2]int64{400, 600}), 1, 400, 600}, {chain([2]int64{300, 700}, [2]int64{0, 299}), 1, 300, 300},
		{chain([2]int64{300, 700}, [2]int64{0, 300}), 1, 300, 300}, {chain([2]int64{300, 700}, [2]int64{0, 301}), 1, 300, 301},
		{chain([2]int64{300, 700}, [2]int64{699, 1024}), 1, 699, 700}, {chain([2]int64{300, 700}, [2]int64{700, 1024}), 1, 700, 700},
		{chain([2]int64{300, 700}, [2]int64{701, 1024}), 1, 700, 700}, {chain([2]int64{300, 700}, [2]int64{500, 500}), 1, 500, 500},
		{chain([2]int64{0, 0}, [2]int64{1024, 1024}), 1, 0, 0}, {chain([2]int64{1024, 1024}, [2]int64{0, 0}), 1, 1024, 1024},
		{[]impl.Guild{{}}, 0, -1, -1}, {[]impl.Guild{{}}, -1, -1, -1}, {nil, 0, -1, -1}, {nil, -2, -1, -1}, {nil, 1, -1, -1},
		{given, math.MinInt64, -1, -1}, {given, math.MaxInt64, -1, -1}, {nil, math.MinInt64, -1, -1}, {nil, math.MaxInt64, -1, -1},
	}
	for _, k := range cases {
		if low, high := impl.Bounds(k.l, k.g); low != k.low || high != k.high {
			t.Errorf("Bounds(%v, %d) = %d, %d, not %d, %d", k.l, k.g, low, high, k.low, k.high)
		}
	}
}

func TestWithinCases(t *testing.T) {
	given := []impl.Guild{guild(-1, 100, 500), guild(0, 50, 300), guild(1, 400, 1024)}
	cases := []struct {
		l                        []impl.Guild
		g, low, high, from, upTo int64
	}{
		{given, -1, 7, 9, 7, 9}, {given, -1, 0, 1024, 0, 1024}, {given, -1, 0, 0, 0, 0}, {given, -1, 1024, 1024, 1024, 1024}, {nil, -1, 7, 9, 7, 9},
		{given, 0, 0, 1024, 100, 500}, {given, 0, 100, 500, 100, 500}, {given, 0, 101, 499, 101, 499}, {given, 0, 99, 501, 100, 500},
		{given, 0, 0, 50, 100, 100}, {given, 0, 0, 100, 100, 100}, {given, 0, 0, 101, 100, 101}, {given, 0, 500, 600, 500, 500},
		{given, 0, 501, 600, 500, 500}, {given, 0, 499, 600, 499, 500}, {given, 0, 250, 250, 250, 250},
		{given, 1, 0, 1024, 100, 300}, {given, 1, 50, 200, 100, 200}, {given, 1, 200, 400, 200, 300}, {given, 1, 301, 400, 300, 300},
		{given, 2, 0, 1024, 300, 300}, {given, 2, 0, 0, 300, 300}, {given, 2, 1024, 1024, 300, 300}, {given, 2, 300, 300, 300, 300},
		{given, 0, -1, 1024, -1, -1}, {given, 0, 0, 1025, -1, -1}, {given, 0, 10, 9, -1, -1}, {given, 0, 1, 0, -1, -1}, {given, 0, 1024, 1023, -1, -1},
		{given, -1, -1, 9, -1, -1}, {given, -1, 7, 1025, -1, -1}, {given, -1, 9, 7, -1, -1}, {given, -1, 1025, 1025, -1, -1}, {given, -1, -1, -1, -1, -1},
		{given, 3, 7, 9, -1, -1}, {given, -2, 7, 9, -1, -1}, {nil, 0, 7, 9, -1, -1}, {[]impl.Guild{{}}, -1, 7, 9, -1, -1}, {[]impl.Guild{{}}, 0, 7, 9, -1, -1},
		{given, math.MinInt64, math.MinInt64, math.MinInt64, -1, -1}, {given, math.MaxInt64, math.MaxInt64, math.MaxInt64, -1, -1},
		{given, 0, math.MinInt64, math.MaxInt64, -1, -1}, {given, 0, math.MaxInt64, math.MinInt64, -1, -1},
	}
	for _, k := range cases {
		if from, upTo := impl.Within(k.l, k.g, k.low, k.high); from != k.from || upTo != k.upTo {
			t.Errorf("Within(%v, %d, %d, %d) = %d, %d, not %d, %d", k.l, k.g, k.low, k.high, from, upTo, k.from, k.upTo)
		}
	}
}

func TestGuildsOkCases(t *testing.T) {
	cases := []struct {
		l    []impl.Guild
		want bool
	}{
		{nil, true}, {[]impl.Guild{}, true}, {[]impl.Guild{guild(-1, 0, 0)}, true}, {[]impl.Guild{{}}, false},
		{[]impl.Guild{guild(-2, 0, 0)}, false}, {[]impl.Guild{guild(0, 0, 1)}, false}, {[]impl.Guild{guild(1, 0, 1)}, false},
		{[]impl.Guild{guild(-1, 0, 1024)}, true}, {[]impl.Guild{guild(-1, 1024, 1024)}, true}, {[]impl.Guild{guild(-1, -1, 1024)}, false},
		{[]impl.Guild{guild(-1, 0, 1025)}, false}, {[]impl.Guild{guild(-1, 1025, 1025)}, false}, {[]impl.Guild{guild(-1, -1, -1)}, false},
		{[]impl.Guild{guild(-1, 0, -1)}, false}, {[]impl.Guild{guild(-1, 1025, 1024)}, false},
		{[]impl.Guild{guild(-1, 500, 500)}, true}, {[]impl.Guild{guild(-1, 501, 500)}, false}, {[]impl.Guild{guild(-1, 500, 501)}, true},
		{[]impl.Guild{guild(-1, 5, 6), guild(0, 0, 1)}, true}, {[]impl.Guild{guild(-1, 5, 6), guild(1, 0, 1)}, false},
		{[]impl.Guild{guild(-1, 5, 6), guild(2, 0, 1)}, false}, {[]impl.Guild{guild(1, 5, 6), guild(-1, 0, 1)}, false},
		{[]impl.Guild{guild(1, 5, 6), guild(0, 0, 1)}, false}, {[]impl.Guild{guild(-1, 5, 6), guild(-1, 5, 6)}, true},
	}
	for _, k := range cases {
		if got := impl.GuildsOk(k.l); got != k.want {
			t.Errorf("GuildsOk(%v) = %v", k.l, got)
		}
	}
}

// Promise 8, of every list of none to three guilds with bounds below, within and above each other, at what meets and at
// one beside it; and of six guilds that stand below each other in every way.
func TestBoundsLieWithinThoseOfAllAbove(t *testing.T) {
	for length := range 4 {
		for _, l := range rightLists(length, rightPairs(0, 300, 301, 700, 1024)) {
			checkAllAbove(t, l)
			for g := range l {
				checkBounds(t, l, int64(g))
			}
		}
	}
	for _, l := range sixGuilds() {
		checkAllAbove(t, l)
		checkGuilds(t, l)
	}
}

// Promise 8 along chains of one to six guilds: what is above at any distance bounds the last one.
func TestChainsOfGuilds(t *testing.T) {
	pairs := rightPairs(0, 400, 600, 1024)
	for length := 1; length <= 6; length++ {
		for _, first := range pairs {
			for _, middle := range pairs {
				for _, last := range pairs {
					list := slices.Repeat([][2]int64{middle}, length)
					list[0], list[length-1] = first, last
					l := chain(list...)
					checkAllAbove(t, l)
					checkBounds(t, l, int64(length)-1)
				}
			}
		}
	}
}

// Of every Low and High that a guild may have, below one from 300 to 700.
func TestEveryLowAndHigh(t *testing.T) {
	for low := int64(0); low <= mostBound; low++ {
		for high := low; high <= mostBound; high++ {
			l := []impl.Guild{guild(-1, 300, 700), guild(0, low, high)}
			wantLow, wantHigh := wantNarrowed(low, high, 300, 700)
			if a, b := impl.Bounds(l, 1); a != wantLow || b != wantHigh {
				t.Fatalf("Bounds(%v, 1) = %d, %d, not %d, %d", l, a, b, wantLow, wantHigh)
			}
			if a, b := impl.Within(l, 0, low, high); a != wantLow || b != wantHigh {
				t.Fatalf("Within(%v, 0, %d, %d) = %d, %d, not %d, %d", l, low, high, a, b, wantLow, wantHigh)
			}
			if a, b := impl.Within(l, -1, low, high); a != low || b != high {
				t.Fatalf("Within(%v, -1, %d, %d) = %d, %d", l, low, high, a, b)
			}
		}
	}
}

// What lies within the Bounds of a guild already stays as it is; all else is moved no further than it must be.
func TestWithinStaysWithinTheBounds(t *testing.T) {
	numbers := []int64{0, 1, 99, 100, 101, 250, 299, 300, 301, 500, 512, 699, 700, 701, 1023, 1024}
	for _, l := range sixGuilds() {
		for g := int64(-1); g < 6; g++ {
			from, to := impl.Bounds(l, g)
			for _, asked := range rightPairs(append(numbers, from, to)...) {
				low, high := impl.Within(l, g, asked[0], asked[1])
				if low < from || low > high || high > to {
					t.Fatalf("Within(%v, %d, %d, %d) = %d, %d, and the Bounds are %d, %d", l, g, asked[0], asked[1], low, high, from, to)
				}
				if asked[0] >= from && asked[0] <= to && low != asked[0] || asked[1] >= from && asked[1] <= to && high != asked[1] {
					t.Fatalf("Within(%v, %d, %d, %d) = %d, %d, and %d to %d are its Bounds", l, g, asked[0], asked[1], low, high, from, to)
				}
				again, same := impl.Within(l, g, low, high)
				if again != low || same != high {
					t.Fatalf("Within(%v, %d, %d, %d) = %d, %d", l, g, low, high, again, same)
				}
			}
		}
	}
}

// What is asked for Within a guild are the Bounds of one more that is below it.
func TestWithinIsTheBoundsOfOneMore(t *testing.T) {
	for length := range 4 {
		for _, l := range rightLists(length, rightPairs(0, 400, 1024)) {
			for g := int64(-1); g < int64(length); g++ {
				for _, asked := range rightPairs(0, 200, 400, 800, 1024) {
					more := slices.Concat(l, []impl.Guild{guild(g, asked[0], asked[1])})
					low, high := impl.Within(l, g, asked[0], asked[1])
					if a, b := impl.Bounds(more, int64(length)); a != low || b != high {
						t.Fatalf("Bounds(%v, %d) = %d, %d, and Within %d, %d", more, length, a, b, low, high)
					}
				}
			}
		}
	}
}

// Guilds behind one, and those beside it, are of no matter to its Bounds.
func TestOnlyThoseAboveCount(t *testing.T) {
	for _, l := range sixGuilds() {
		for g := range l {
			low, high := impl.Bounds(l, int64(g))
			if a, b := impl.Bounds(l[:g+1], int64(g)); a != low || b != high {
				t.Fatalf("Bounds(%v, %d) = %d, %d, and without those behind it %d, %d", l, g, low, high, a, b)
			}
			other := slices.Clone(l)
			for i := range other {
				other[i].Low, other[i].High = 512, 513
			}
			for above := int64(g); above >= 0; above = l[above].Above {
				other[above] = l[above]
			}
			if a, b := impl.Bounds(other, int64(g)); a != low || b != high {
				t.Fatalf("Bounds(%v, %d) = %d, %d, and with others beside it %d, %d", l, g, low, high, a, b)
			}
		}
	}
}

// Every list of at most two guilds whose numbers are at a limit, or one past it.
func TestEveryPairOfGuildsNearTheLimits(t *testing.T) {
	near := []impl.Guild{}
	for _, above := range []int64{-2, -1, 0, 1, 2} {
		for _, low := range []int64{-1, 0, 500, 1024, 1025} {
			for _, high := range []int64{-1, 0, 499, 500, 501, 1024, 1025} {
				near = append(near, guild(above, low, high))
			}
		}
	}
	for _, a := range near {
		checkGuilds(t, []impl.Guild{a})
		for _, b := range near {
			l := []impl.Guild{a, b}
			checkGuildsOk(t, l)
			for g := int64(-2); g <= 2; g++ {
				checkBounds(t, l, g)
				checkWithin(t, l, g, 499, 501)
			}
		}
	}
}

// Six are guilds and seven are none, whatever they are; nor are many.
func TestHowManyGuildsThereMayBe(t *testing.T) {
	right := guild(-1, 300, 700)
	for n := range 20 {
		l := slices.Repeat([]impl.Guild{right}, n)
		if got := impl.GuildsOk(l); got != (n <= 6) {
			t.Fatalf("GuildsOk of %d guilds is %v", n, got)
		}
		checkGuilds(t, l)
		checkGuilds(t, chain(slices.Repeat([][2]int64{{300, 700}}, n)...))
	}
	long := slices.Repeat([]impl.Guild{right}, 100000)
	for i := range long {
		long[i].Above = int64(i) - 1
	}
	for _, g := range []int64{-2, -1, 0, 5, 6, 7, 99999, 100000, math.MinInt64, math.MaxInt64} {
		low, high := impl.Bounds(long, g)
		a, b := impl.Within(long, g, 400, 500)
		if impl.GuildsOk(long) || low != -1 || high != -1 || a != -1 || b != -1 {
			t.Fatalf("of too many guilds there is %d: %d, %d, and %d, %d", g, low, high, a, b)
		}
	}
}

// Above may lead to any guild ahead, not to the guild itself nor to one behind it, in every place of six.
func TestAboveInEveryPlace(t *testing.T) {
	for _, pair := range [][2]int64{{0, 1024}, {300, 700}, {5, 5}} {
		for length := 1; length <= 6; length++ {
			for place := range length {
				for above := int64(-3); above <= 8; above++ {
					l := chain(slices.Repeat([][2]int64{pair}, length)...)
					l[place].Above = above
					if got := impl.GuildsOk(l); got != (above >= -1 && above < int64(place)) {
						t.Fatalf("GuildsOk(%v) = %v", l, got)
					}
					checkGuilds(t, l)
				}
			}
		}
	}
}

// The least and the greatest int64, and numbers between, in the place of each number of a list, and in all of them.
func TestWrongNumbersInEveryGuild(t *testing.T) {
	for _, n := range noBounds {
		for length := 1; length <= 6; length++ {
			for place := range length {
				for field := range 3 {
					l := chain(slices.Repeat([][2]int64{{300, 700}}, length)...)
					*[]*int64{&l[place].Above, &l[place].Low, &l[place].High}[field] = n
					if impl.GuildsOk(l) {
						t.Fatalf("GuildsOk(%v) is true", l)
					}
					checkGuilds(t, l)
				}
				for _, m := range noBounds {
					for _, wrong := range []impl.Guild{guild(n, m, 700), guild(n, 300, m), guild(-1, n, m), guild(n, m, m), guild(n, n, m)} {
						l := chain(slices.Repeat([][2]int64{{300, 700}}, length)...)
						l[place] = wrong
						if low, high := impl.Bounds(l, int64(length)-1); impl.GuildsOk(l) || low != -1 || high != -1 {
							t.Fatalf("Bounds(%v, %d) = %d, %d", l, length-1, low, high)
						}
					}
				}
			}
			l := slices.Repeat([]impl.Guild{guild(n, n, n)}, length)
			checkGuilds(t, l)
			checkBounds(t, l, n)
			checkWithin(t, l, n, n, n)
		}
	}
}

// What is out of range beside the list, one at a time and all together.
func TestWrongNumbersBesideTheGuilds(t *testing.T) {
	lists := [][]impl.Guild{nil, {guild(-1, 0, 1024)}, chain(slices.Repeat([][2]int64{{300, 700}}, 6)...), {guild(-1, 700, 300)}, {{}}}
	for _, l := range lists {
		for _, n := range noBounds {
			checkBounds(t, l, n)
			checkWithin(t, l, n, 400, 500)
			checkWithin(t, l, n, n, n)
			for g := int64(-1); g <= int64(len(l)); g++ {
				checkWithin(t, l, g, n, 500)
				checkWithin(t, l, g, 400, n)
				for _, m := range noBounds {
					checkWithin(t, l, g, n, m)
					if a, b := impl.Within(l, g, n, m); a != -1 || b != -1 {
						t.Fatalf("Within(%v, %d, %d, %d) = %d, %d", l, g, n, m, a, b)
					}
				}
			}
		}
	}
}

// A Low and a High beside the list are right just where they would be a guild's.
func TestWithinAsksWhatAGuildMustBe(t *testing.T) {
	numbers := append([]int64{-1, 0, 1, 499, 500, 501, 1023, 1024, 1025}, noBounds...)
	for _, low := range numbers {
		for _, high := range numbers {
			a, b := impl.Within(nil, -1, low, high)
			ok := impl.GuildsOk([]impl.Guild{guild(-1, low, high)})
			if ok && (a != low || b != high) || !ok && (a != -1 || b != -1) {
				t.Fatalf("Within(nil, -1, %d, %d) = %d, %d, and such a guild: %v", low, high, a, b, ok)
			}
		}
	}
}
