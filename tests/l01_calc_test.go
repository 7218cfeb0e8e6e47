package tests

import (
	"math"
	"math/big"
	"testing"

	"loop.example/g00553/impl"
)

const billion = 1000000000

// extremes are numbers near each limit of the chapter, and as far from all of them as an int64 can be.
var extremes = []int64{
	math.MinInt64, math.MinInt64 + 1, math.MinInt32, -billion - 1, -billion, -1025, -1024, -2, -1,
	0, 1, 2, 31, 32, 33, 999, 1000, 1001, 1023, 1024, 1025,
	billion - 1, billion, billion + 1, math.MaxInt32, math.MaxInt64 - 1, math.MaxInt64,
}

func isFrom(x, low, high int64) bool { return low <= x && x <= high }

// wantMulDiv reckons without any bound on size, so that it can't overflow where the program might.
func wantMulDiv(a, b, c int64) int64 {
	if !isFrom(a, 0, billion) || !isFrom(b, 0, billion) || !isFrom(c, 1, billion) {
		return -1
	}
	product := new(big.Int).Mul(big.NewInt(a), big.NewInt(b))
	return product.Quo(product, big.NewInt(c)).Int64()
}

func TestMulDivCases(t *testing.T) {
	cases := []struct{ a, b, c, want int64 }{
		{7, 5, 2, 17},
		{0, 5, 2, 0},
		{5, 0, 2, 0},
		{0, 0, 1, 0},
		{1, 1, billion, 0},
		{1, billion, billion, 1},
		{billion - 1, 1, billion, 0},
		{billion, billion, 1, billion * billion},
		{billion, billion, billion, billion},
		{billion, billion, 3, 333333333333333333},
		{-1, 1, 1, -1},
		{billion + 1, 1, 1, -1},
		{1, -1, 1, -1},
		{1, billion + 1, 1, -1},
		{1, 1, 0, -1},
		{1, 1, -1, -1},
		{1, 1, billion + 1, -1},
		{-7, -5, 2, -1},
		{-7, 5, -2, -1},
		{math.MinInt64, 1, 1, -1},
		{math.MinInt64, 1, -1, -1},
		{1, math.MinInt64, 1, -1},
		{1, 1, math.MinInt64, -1},
		{math.MaxInt64, 1, 1, -1},
		{1, math.MaxInt64, 1, -1},
		{1, 1, math.MaxInt64, -1},
		{0, 0, 0, -1},
	}
	for _, k := range cases {
		if got := impl.MulDiv(k.a, k.b, k.c); got != k.want {
			t.Errorf("MulDiv(%d, %d, %d) = %d, not %d", k.a, k.b, k.c, got, k.want)
		}
	}
}

func TestMulDivAtExtremes(t *testing.T) {
	for _, a := range extremes {
		for _, b := range extremes {
			for _, c := range extremes {
				if got, want := impl.MulDiv(a, b, c), wantMulDiv(a, b, c); got != want {
					t.Fatalf("MulDiv(%d, %d, %d) = %d, not %d", a, b, c, got, want)
				}
			}
		}
	}
}

func TestClampedCases(t *testing.T) {
	cases := []struct{ x, low, high, want int64 }{
		{2, 1, 3, 2},
		{5, 1, 3, 3},
		{-5, 1, 3, 1},
		{1, 1, 3, 1},
		{3, 1, 3, 3},
		{0, 1, 3, 1},
		{4, 1, 3, 3},
		{7, 2, 2, 2},
		{-7, 2, 2, 2},
		{2, 4, 3, 3},
		{9, 4, 3, 3},
		{3, 4, 3, 3},
		{4, 4, 3, 3},
		{math.MinInt64, math.MinInt64, math.MaxInt64, math.MinInt64},
		{math.MaxInt64, math.MinInt64, math.MaxInt64, math.MaxInt64},
		{math.MinInt64, -1, 1, -1},
		{math.MaxInt64, -1, 1, 1},
		{0, math.MaxInt64, math.MinInt64, math.MinInt64},
		{math.MaxInt64, math.MaxInt64, math.MinInt64, math.MinInt64},
		{math.MinInt64, math.MaxInt64, math.MaxInt64, math.MaxInt64},
	}
	for _, k := range cases {
		if got := impl.Clamped(k.x, k.low, k.high); got != k.want {
			t.Errorf("Clamped(%d, %d, %d) = %d, not %d", k.x, k.low, k.high, got, k.want)
		}
	}
}

func wantClamped(x, low, high int64) int64 {
	switch {
	case low > high, x > high:
		return high
	case x < low:
		return low
	}
	return x
}

func TestClampedAtExtremes(t *testing.T) {
	for _, x := range extremes {
		for _, low := range extremes {
			for _, high := range extremes {
				if got, want := impl.Clamped(x, low, high), wantClamped(x, low, high); got != want {
					t.Fatalf("Clamped(%d, %d, %d) = %d, not %d", x, low, high, got, want)
				}
			}
		}
	}
}

func TestFadedCases(t *testing.T) {
	cases := []struct{ u, x, want int64 }{
		{0, 0, 0},
		{0, 1024, 32},
		{1024, 0, 992},
		{1024, 1024, 1024},
		{100, 0, 96},
		{0, 31, 0},
		{0, 32, 1},
		{1, 0, 0},
		{512, 256, 504},
		{-1, 0, -1},
		{0, -1, -1},
		{1025, 0, -1},
		{0, 1025, -1},
		{1024, 1025, -1},
		{1025, 1024, -1},
		{math.MinInt64, 0, -1},
		{0, math.MinInt64, -1},
		{math.MaxInt64, 0, -1},
		{0, math.MaxInt64, -1},
		{math.MinInt64, math.MaxInt64, -1},
	}
	for _, k := range cases {
		if got := impl.Faded(k.u, k.x); got != k.want {
			t.Errorf("Faded(%d, %d) = %d, not %d", k.u, k.x, got, k.want)
		}
	}
}

// Promise 1, of every u and x there are.
func TestFadedStaysBetweenAndGoesTowards(t *testing.T) {
	for u := int64(0); u <= 1024; u++ {
		for x := int64(0); x <= 1024; x++ {
			got := impl.Faded(u, x)
			if !isFrom(got, min(u, x), max(u, x)) {
				t.Fatalf("Faded(%d, %d) = %d is not between", u, x, got)
			}
			if x < u && got >= u || x >= u+32 && got <= u {
				t.Fatalf("Faded(%d, %d) = %d does not go towards %d", u, x, got, x)
			}
			if rest := 31*u + x - 32*got; !isFrom(rest, 0, 31) {
				t.Fatalf("Faded(%d, %d) = %d leaves %d of 32", u, x, got, rest)
			}
		}
	}
}

func TestFadedManyCases(t *testing.T) {
	cases := []struct{ u, x, n, want int64 }{
		{5, 0, 0, 5},
		{0, 1024, 0, 0},
		{1024, 0, 0, 1024},
		{0, 1024, 1, 32},
		{0, 1024, 2, 63},
		{0, 1024, 3, 93},
		{100, 0, 2, 93},
		{1024, 0, 1000, 0},
		{0, 1024, 1000, 993},
		{1024, 1024, 1000, 1024},
		{5, 0, -1, -1},
		{5, 0, 1001, -1},
		{5, 0, math.MinInt64, -1},
		{5, 0, math.MaxInt64, -1},
		{-1, 0, 1, -1},
		{1025, 0, 1, -1},
		{0, -1, 1, -1},
		{0, 1025, 1, -1},
		{-1, 0, 0, -1},
		{1025, 0, 0, -1},
		{0, -1, 0, -1},
		{0, 1025, 0, -1},
		{1025, 0, 1000, -1},
		{math.MinInt64, 0, 1000, -1},
		{math.MaxInt64, 0, 1000, -1},
	}
	for _, k := range cases {
		if got := impl.FadedMany(k.u, k.x, k.n); got != k.want {
			t.Errorf("FadedMany(%d, %d, %d) = %d, not %d", k.u, k.x, k.n, got, k.want)
		}
	}
}

// Each time more is Faded once more, and that never goes away from x, nor past it.
func TestFadedManyIsFadedAgainAndAgain(t *testing.T) {
	for _, u := range []int64{0, 1, 31, 32, 500, 1023, 1024} {
		for _, x := range []int64{0, 1, 31, 32, 500, 1023, 1024} {
			want := u
			for n := int64(0); n <= 1000; n++ {
				got := impl.FadedMany(u, x, n)
				if got != want {
					t.Fatalf("FadedMany(%d, %d, %d) = %d, not %d", u, x, n, got, want)
				}
				if !isFrom(got, min(u, x), max(u, x)) {
					t.Fatalf("FadedMany(%d, %d, %d) = %d is not between", u, x, n, got)
				}
				want = impl.Faded(want, x)
			}
		}
	}
}

func TestFadedAtExtremes(t *testing.T) {
	for _, u := range extremes {
		for _, x := range extremes {
			right := isFrom(u, 0, 1024) && isFrom(x, 0, 1024)
			if got := impl.Faded(u, x); (got == -1) == right {
				t.Fatalf("Faded(%d, %d) = %d", u, x, got)
			}
			for _, n := range extremes {
				right := right && isFrom(n, 0, 1000)
				if got := impl.FadedMany(u, x, n); (got == -1) == right {
					t.Fatalf("FadedMany(%d, %d, %d) = %d", u, x, n, got)
				}
			}
		}
	}
}
