package tests

import (
	"math"
	"math/big"
	"testing"

	"loop.example/g00553/impl"
)

// ranked holds the weight of each rank, from -5 on, as it comes out by hand.
var ranked = []int64{3125, 2500, 2000, 1600, 1280, 1024, 819, 655, 524, 419, 335}

// noRanks holds what looks like a rank in its lowest bits alone, beside what is just out of range and as far out as can
// be.
var noRanks = []int64{
	math.MinInt64, math.MinInt64 + 1, math.MinInt64 + 5, math.MinInt32, -billion, -1<<32 - 5, -261, -256, -251, -11, -7, -6,
	6, 7, 10, 11, 251, 256, 261, 1024, 1<<32 - 5, 1 << 32, 1<<32 + 5, billion, math.MaxInt32, math.MaxInt64 - 5, math.MaxInt64 - 1, math.MaxInt64,
}

// wantShare reckons without any bound on size, so that it can't overflow where the program might.
func wantShare(work, weight, carry int64) (int64, int64) {
	if !isFrom(work, 0, billion) || !isFrom(weight, 1, 100000) || !isFrom(carry, 0, weight-1) {
		return -1, 0
	}
	sum := new(big.Int).Mul(big.NewInt(1024), big.NewInt(work))
	sum.Add(sum, big.NewInt(carry))
	share, left := sum.QuoRem(sum, big.NewInt(weight), new(big.Int))
	return share.Int64(), left.Int64()
}

func wantRank(weight int64) int64 {
	found := int64(-6)
	for i, w := range ranked {
		if w >= weight {
			found = int64(i) - 5
		}
	}
	return found
}

func TestEveryRankHasItsWeight(t *testing.T) {
	for i, want := range ranked {
		if got := impl.WeightOf(int64(i) - 5); got != want {
			t.Errorf("WeightOf(%d) = %d, not %d", i-5, got, want)
		}
	}
}

// Promise 3: weights fall with the ranks, each by the fraction that the chapter tells, from rank 0 out.
func TestWeightsFallWithTheRanks(t *testing.T) {
	if got := impl.WeightOf(0); got != 1024 {
		t.Fatalf("WeightOf(0) = %d", got)
	}
	for rank := int64(1); rank <= 5; rank++ {
		if got, ahead := impl.WeightOf(rank), impl.WeightOf(rank-1); !isFrom(4*ahead, 5*got, 5*got+4) {
			t.Errorf("WeightOf(%d) = %d is not four fifths of %d", rank, got, ahead)
		}
		if got, behind := impl.WeightOf(-rank), impl.WeightOf(1-rank); !isFrom(5*behind, 4*got, 4*got+3) {
			t.Errorf("WeightOf(%d) = %d is not five fourths of %d", -rank, got, behind)
		}
	}
	for rank := int64(-5); rank < 5; rank++ {
		if here, next := impl.WeightOf(rank), impl.WeightOf(rank+1); here <= next || next <= 0 {
			t.Errorf("WeightOf(%d) = %d, WeightOf(%d) = %d", rank, here, rank+1, next)
		}
	}
}

func TestWhatIsNoRankHasNoWeight(t *testing.T) {
	for _, rank := range noRanks {
		if got := impl.WeightOf(rank); got != 0 {
			t.Errorf("WeightOf(%d) = %d", rank, got)
		}
	}
}

func TestShareCases(t *testing.T) {
	cases := []struct{ work, weight, carry, share, left int64 }{
		{10, 1000, 5, 10, 245},
		{10, 1024, 0, 10, 0},
		{10, 1024, 1023, 10, 1023},
		{1, 335, 0, 3, 19},
		{1, 335, 316, 4, 0},
		{1, 3125, 0, 0, 1024},
		{1, 3125, 2100, 0, 3124},
		{1, 3125, 2101, 1, 0},
		{0, 1, 0, 0, 0},
		{0, 100000, 0, 0, 0},
		{0, 100000, 99999, 0, 99999},
		{billion, 1, 0, 1024 * billion, 0},
		{billion, 100000, 0, 10240000, 0},
		{billion, 100000, 99999, 10240000, 99999},
		{billion, 1024, 1023, billion, 1023},
		{-1, 1000, 0, -1, 0},
		{billion + 1, 1000, 0, -1, 0},
		{10, 0, 0, -1, 0},
		{10, -1, 0, -1, 0},
		{10, 100001, 0, -1, 0},
		{10, 1000, -1, -1, 0},
		{10, 1000, 999, 11, 239},
		{10, 1000, 1000, -1, 0},
		{10, 1, 1, -1, 0},
		{10, 100000, 100000, -1, 0},
		{0, 0, 0, -1, 0},
		{0, 0, -1, -1, 0},
		{0, -1, -2, -1, 0},
		{math.MinInt64, 1, 0, -1, 0},
		{math.MaxInt64, 1, 0, -1, 0},
		{1, math.MinInt64, 0, -1, 0},
		{1, math.MinInt64, math.MaxInt64, -1, 0},
		{1, math.MaxInt64, 0, -1, 0},
		{1, 1, math.MinInt64, -1, 0},
		{1, 1, math.MaxInt64, -1, 0},
		{math.MinInt64, -1, 0, -1, 0},
		{math.MinInt64, math.MinInt64, math.MinInt64, -1, 0},
		{math.MaxInt64, math.MaxInt64, math.MaxInt64, -1, 0},
	}
	for _, k := range cases {
		if share, left := impl.Share(k.work, k.weight, k.carry); share != k.share || left != k.left {
			t.Errorf("Share(%d, %d, %d) = %d, %d, not %d, %d", k.work, k.weight, k.carry, share, left, k.share, k.left)
		}
	}
}

// Every argument near a limit, or far past it, beside every other such one.
func TestShareAtItsLimits(t *testing.T) {
	numbers := append([]int64{334, 335, 336, 3124, 3125, 3126, 99998, 99999, 100000, 100001}, extremes...)
	for _, work := range numbers {
		for _, weight := range numbers {
			for _, carry := range append([]int64{weight - 2, weight - 1, weight, weight + 1}, numbers...) {
				share, left := wantShare(work, weight, carry)
				if s, l := impl.Share(work, weight, carry); s != share || l != left {
					t.Fatalf("Share(%d, %d, %d) = %d, %d, not %d, %d", work, weight, carry, s, l, share, left)
				}
			}
		}
	}
}

// Promise 3: what is shared and what is left over make up the work again, and less than a weight is left.
func TestNoShareIsLost(t *testing.T) {
	for _, weight := range append([]int64{1, 2, 3, 1023, 1025, 99999, 100000}, ranked...) {
		for work := int64(0); work <= billion; work = work*3 + 1 {
			for _, carry := range []int64{0, weight / 3, weight / 2, weight - 1} {
				share, left := impl.Share(work, weight, carry)
				if share*weight+left != 1024*work+carry || !isFrom(left, 0, weight-1) {
					t.Fatalf("Share(%d, %d, %d) = %d, %d", work, weight, carry, share, left)
				}
			}
		}
	}
}

// Promise 3: two works one after the other, the carry handed on, come to what both together come to.
func TestSharesAddUp(t *testing.T) {
	works := []int64{0, 1, 2, 7, 10, 199, 512, 1024, 20480, 99999, 123456789, billion / 2}
	for _, weight := range append([]int64{1, 2, 3, 100000}, ranked...) {
		for _, one := range works {
			for _, other := range works {
				for _, carry := range []int64{0, weight / 2, weight - 1} {
					first, handed := impl.Share(one, weight, carry)
					second, left := impl.Share(other, weight, handed)
					both, rest := impl.Share(one+other, weight, carry)
					if first+second != both || left != rest {
						t.Fatalf("Share of %d and %d by %d, carry %d: %d and %d, left %d; together %d, left %d",
							one, other, weight, carry, first, second, left, both, rest)
					}
				}
			}
		}
	}
}

// Many small works lose no more than one great one does.
func TestManySharesAddUp(t *testing.T) {
	for _, weight := range ranked {
		sum, carry := int64(0), int64(0)
		for work := range int64(2000) {
			share, left := impl.Share(work, weight, carry)
			sum, carry = sum+share, left
		}
		if share, left := impl.Share(1999*1000, weight, 0); sum != share || carry != left {
			t.Errorf("by %d: %d, left %d; together %d, left %d", weight, sum, carry, share, left)
		}
	}
}

func TestRankForCases(t *testing.T) {
	cases := []struct{ weight, want int64 }{
		{3126, -6}, {3125, -5}, {3124, -5},
		{2501, -5}, {2500, -4}, {2499, -4},
		{2001, -4}, {2000, -3}, {1999, -3},
		{1601, -3}, {1600, -2}, {1599, -2},
		{1281, -2}, {1280, -1}, {1279, -1},
		{1025, -1}, {1024, 0}, {1023, 0},
		{820, 0}, {819, 1}, {818, 1},
		{656, 1}, {655, 2}, {654, 2},
		{525, 2}, {524, 3}, {523, 3},
		{420, 3}, {419, 4}, {418, 4},
		{336, 4}, {335, 5}, {334, 5},
		{1, 5}, {0, 5}, {-1, 5}, {-3126, 5},
		{100000, -6}, {100001, -6}, {1<<32 + 1, -6}, {-1<<32 + 3126, 5},
		{math.MinInt64, 5}, {math.MinInt64 + 1, 5},
		{math.MaxInt64 - 1, -6}, {math.MaxInt64, -6},
	}
	for _, k := range cases {
		if got := impl.RankFor(k.weight); got != k.want {
			t.Errorf("RankFor(%d) = %d, not %d", k.weight, got, k.want)
		}
	}
}

// Of every weight there may be: the rank that is told is enough, and the one behind it, where there is one, is not.
func TestEveryWeightHasItsRank(t *testing.T) {
	for weight := int64(-10); weight <= 100001; weight++ {
		rank := impl.RankFor(weight)
		if rank != wantRank(weight) {
			t.Fatalf("RankFor(%d) = %d, not %d", weight, rank, wantRank(weight))
		}
		if rank > -6 && impl.WeightOf(rank) < weight || rank < 5 && impl.WeightOf(rank+1) >= weight {
			t.Fatalf("RankFor(%d) = %d, of weight %d", weight, rank, impl.WeightOf(rank))
		}
	}
	for rank := int64(-5); rank <= 5; rank++ {
		if got := impl.RankFor(impl.WeightOf(rank)); got != rank {
			t.Errorf("RankFor(WeightOf(%d)) = %d", rank, got)
		}
	}
}
