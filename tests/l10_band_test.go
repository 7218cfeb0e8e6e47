package tests

import (
	"math"
	"math/big"
	"slices"
	"testing"

	"loop.example/g00553/impl"
)

const (
	credit   = 20000
	lead     = 63000
	mostMark = 900 * billion
)

// someMarks holds marks of both signs, the limits and those beside them, and some from which the band, or a move, just
// meets the limits of a Had or passes them.
var someMarks = []int64{
	leastHad, leastHad + 1, leastHad + credit - 1, leastHad + credit, leastHad + credit + 1, leastHad + lead, leastHad + lead + 1,
	-mostMark - 1, -mostMark, -mostMark + 1, -billion, -100000, -lead - 1, -lead, -lead + 1, -credit - 1, -credit, -credit + 1, -7, -2, -1, 0,
	1, 2, 7, credit - 1, credit, credit + 1, lead - 1, lead, lead + 1, credit + lead, 100000, billion, mostMark - 1, mostMark, mostMark + 1,
	mostHad - lead - 1, mostHad - lead, mostHad - lead + 1, mostHad - credit - 1, mostHad - credit, mostHad - credit + 1, mostHad - 1, mostHad,
}

// aroundBand holds how far from the mark the edges of the band are, and what lies beside them.
var aroundBand = []int64{
	-billion, -lead, -2 * credit, -credit - 2, -credit - 1, -credit, -credit + 1, -credit / 2, -1,
	0, 1, credit, lead / 2, lead - 1, lead, lead + 1, lead + 2, 2 * lead, billion,
}

// noHadsNearby adds to noHads what the sums of the chapter would bring back into range, or wrap round.
var noHadsNearby = slices.Concat(noHads, []int64{
	math.MinInt64 + credit - 1, math.MinInt64 + credit, math.MinInt64 + lead, math.MinInt64 + mostHad, leastHad - lead - 1, leastHad - lead,
	leastHad - credit - 1, leastHad - credit, leastHad - credit + 1, mostHad + credit - 1, mostHad + credit, mostHad + credit + 1,
	mostHad + lead, mostHad + lead + 1, math.MaxInt64 - mostHad, math.MaxInt64 - lead, math.MaxInt64 - lead + 1, math.MaxInt64 - credit,
})

func areHads(list ...int64) bool {
	return !slices.ContainsFunc(list, func(n int64) bool { return !isFrom(n, leastHad, mostHad) })
}

// apart tells how far a is above b, without any bound on size.
func apart(a, b int64) *big.Int { return new(big.Int).Sub(big.NewInt(a), big.NewInt(b)) }

func wantInBand(had, mark int64) bool {
	ahead := apart(had, mark)
	return areHads(had, mark) && ahead.Cmp(big.NewInt(-credit)) >= 0 && ahead.Cmp(big.NewInt(lead)) <= 0
}

func wantPlaced(had, mark int64) int64 {
	if areHads(mark) && apart(had, mark).Cmp(big.NewInt(-credit)) < 0 {
		return mark - credit
	}
	return had
}

func wantMoved(had, from, to int64) int64 {
	if !areHads(had, from, to) {
		return had
	}
	ahead := apart(had, from)
	return ahead.Add(ahead, big.NewInt(to)).Int64()
}

func wantMarked(mark, first int64) int64 {
	switch {
	case !areHads(mark, first):
		return mark
	case mark > mostMark || first > mostMark:
		return mostMark
	case first > mark:
		return first
	}
	return mark
}

func checkBand(t *testing.T, had, mark int64) {
	t.Helper()
	if got := impl.InBand(had, mark); got != wantInBand(had, mark) {
		t.Fatalf("InBand(%d, %d) = %v", had, mark, got)
	}
	if got, want := impl.Placed(had, mark), wantPlaced(had, mark); got != want {
		t.Fatalf("Placed(%d, %d) = %d, not %d", had, mark, got, want)
	}
	if got, want := impl.Marked(mark, had), wantMarked(mark, had); got != want {
		t.Fatalf("Marked(%d, %d) = %d, not %d", mark, had, got, want)
	}
}

func checkMoved(t *testing.T, had, from, to int64) {
	t.Helper()
	if got, want := impl.Moved(had, from, to), wantMoved(had, from, to); got != want {
		t.Fatalf("Moved(%d, %d, %d) = %d, not %d", had, from, to, got, want)
	}
}

// hadsNear holds the Hads around the band of that mark, and some that are far from it.
func hadsNear(mark int64) []int64 {
	list := []int64{leastHad, -mostMark, 0, mostMark, mostHad}
	for _, ahead := range aroundBand {
		if had := mark + ahead; areHads(had) {
			list = append(list, had)
		}
	}
	return list
}

func TestBandConstants(t *testing.T) {
	if impl.Credit != 20000 || impl.Lead != 63000 || impl.MaxMark != 900000000000 {
		t.Fatal(impl.Credit, impl.Lead, impl.MaxMark)
	}
}

func TestInBandCases(t *testing.T) {
	cases := []struct {
		had, mark int64
		want      bool
	}{
		{0, 0, true}, {-20000, 0, true}, {-20001, 0, false}, {63000, 0, true}, {63001, 0, false}, {-1, 0, true}, {1, 0, true},
		{-25000, -5000, true}, {-25001, -5000, false}, {58000, -5000, true}, {58001, -5000, false}, {0, -63000, true}, {0, -63001, false},
		{0, 20000, true}, {0, 20001, false}, {80000, 100000, true}, {79999, 100000, false}, {163000, 100000, true}, {163001, 100000, false},
		{-120000, -100000, true}, {-120001, -100000, false}, {-37000, -100000, true}, {-36999, -100000, false},
		{mostHad, mostHad, true}, {mostHad - 20000, mostHad, true}, {mostHad - 20001, mostHad, false}, {mostHad, mostHad - 63000, true},
		{mostHad, mostHad - 63001, false}, {mostHad + 1, mostHad, false}, {mostHad, mostHad + 1, false}, {mostHad + 1, mostHad + 1, false},
		{mostHad + 1, mostHad - 62999, false}, {mostHad - 1, mostHad + 1, false}, {mostHad - 19999, mostHad + 1, false},
		{leastHad, leastHad, true}, {leastHad, leastHad + 20000, true}, {leastHad, leastHad + 20001, false}, {leastHad + 63000, leastHad, true},
		{leastHad + 63001, leastHad, false}, {leastHad - 1, leastHad, false}, {leastHad, leastHad - 1, false}, {leastHad - 1, leastHad - 1, false},
		{leastHad - 1, leastHad + 19999, false}, {leastHad + 1, leastHad - 1, false}, {leastHad + 62999, leastHad - 1, false},
		{mostHad, leastHad, false}, {leastHad, mostHad, false}, {0, mostHad, false}, {0, leastHad, false},
		{math.MinInt64, 0, false}, {0, math.MinInt64, false}, {math.MaxInt64, 0, false}, {0, math.MaxInt64, false},
		{math.MinInt64, math.MinInt64, false}, {math.MaxInt64, math.MaxInt64, false}, {math.MinInt64, math.MaxInt64, false}, {math.MaxInt64, math.MinInt64, false},
	}
	for _, k := range cases {
		if got := impl.InBand(k.had, k.mark); got != k.want {
			t.Errorf("InBand(%d, %d) = %v", k.had, k.mark, got)
		}
	}
}

func TestPlacedCases(t *testing.T) {
	cases := []struct{ had, mark, want int64 }{
		{5, 100000, 80000}, {90000, 100000, 90000}, {79999, 100000, 80000}, {80000, 100000, 80000}, {80001, 100000, 80001},
		{163000, 100000, 163000}, {163001, 100000, 163001}, {mostHad, 100000, mostHad}, {leastHad, 100000, 80000}, {0, 0, 0},
		{-20000, 0, -20000}, {-20001, 0, -20000}, {-130000, -100000, -120000}, {-110000, -100000, -110000}, {5, -100000, 5}, {0, 20000, 0}, {0, 20001, 1},
		{leastHad, leastHad, leastHad}, {leastHad, leastHad + 20000, leastHad}, {leastHad, leastHad + 20001, leastHad + 1}, {mostHad, leastHad, mostHad},
		{leastHad, mostHad, mostHad - 20000}, {mostHad, mostHad, mostHad}, {0, mostHad, mostHad - 20000},
		// mark could be none.
		{5, mostHad + 1, 5}, {mostHad, mostHad + 1, mostHad}, {5, leastHad - 1, 5}, {leastHad, leastHad - 1, leastHad}, {mostHad + 1, mostHad + 1, mostHad + 1},
		{leastHad - 50000, leastHad - 1, leastHad - 50000}, {5, math.MinInt64, 5}, {5, math.MaxInt64, 5}, {math.MinInt64, math.MinInt64, math.MinInt64},
		{math.MaxInt64, math.MaxInt64, math.MaxInt64}, {math.MinInt64, math.MaxInt64, math.MinInt64}, {math.MaxInt64, math.MinInt64, math.MaxInt64},
		// had, or the answer, is no Had.
		{mostHad + 1, mostHad, mostHad + 1}, {mostHad + 1, 0, mostHad + 1}, {leastHad - 1, leastHad, leastHad - 1}, {leastHad - 20000, leastHad, leastHad - 20000},
		{leastHad - 20001, leastHad, leastHad - 20000}, {leastHad - 20001, leastHad + 1, leastHad - 19999}, {leastHad - 1, leastHad + 19999, leastHad - 1},
		{leastHad - 1, leastHad + 20000, leastHad}, {leastHad - 1, 0, -20000},
		{math.MinInt64, 0, -20000}, {math.MinInt64, leastHad, leastHad - 20000}, {math.MinInt64, mostHad, mostHad - 20000},
		{math.MaxInt64, 0, math.MaxInt64}, {math.MaxInt64, leastHad, math.MaxInt64}, {math.MaxInt64, mostHad, math.MaxInt64},
	}
	for _, k := range cases {
		if got := impl.Placed(k.had, k.mark); got != k.want {
			t.Errorf("Placed(%d, %d) = %d, not %d", k.had, k.mark, got, k.want)
		}
	}
}

func TestMovedCases(t *testing.T) {
	cases := []struct{ had, from, to, want int64 }{
		{7, 5, 100, 102}, {7, 100, 5, -88}, {0, 0, 0, 0}, {7, 0, 0, 7}, {7, 9, 9, 7}, {-7, -5, -100, -102}, {-7, 5, -5, -17}, {7, -5, 5, 17}, {0, 3, 0, -3}, {0, 0, 3, 3},
		{mostHad, mostHad, 0, 0}, {mostHad, 0, mostHad, 2 * trillion}, {mostHad, leastHad, mostHad, 3 * trillion}, {mostHad, mostHad, mostHad, mostHad},
		{leastHad, leastHad, 0, 0}, {leastHad, 0, leastHad, -2 * trillion}, {leastHad, mostHad, leastHad, -3 * trillion}, {leastHad, leastHad, leastHad, leastHad},
		{mostHad, 0, 1, mostHad + 1}, {mostHad, -1, 0, mostHad + 1}, {mostHad - 1, 0, 1, mostHad}, {leastHad, 0, -1, leastHad - 1}, {leastHad, 1, 0, leastHad - 1},
		{leastHad + 1, 0, -1, leastHad}, {0, leastHad, mostHad, 2 * trillion}, {0, mostHad, leastHad, -2 * trillion},
		// One of them could be no Had.
		{mostHad + 1, 1, 0, mostHad + 1}, {mostHad + 1, 5, 5, mostHad + 1}, {mostHad + 1, 0, 1, mostHad + 1}, {leastHad - 1, 0, 1, leastHad - 1}, {leastHad - 1, 1, 0, leastHad - 1},
		{7, mostHad + 1, 0, 7}, {7, mostHad + 1, mostHad, 7}, {7, leastHad - 1, 0, 7}, {7, 0, mostHad + 1, 7}, {7, 0, leastHad - 1, 7}, {7, mostHad, mostHad + 1, 7},
		{7, mostHad + 1, mostHad + 2, 7}, {mostHad, mostHad + 1, mostHad + 2, mostHad}, {leastHad, leastHad - 1, leastHad - 2, leastHad},
		{math.MinInt64, 5, 100, math.MinInt64}, {7, math.MinInt64, 100, 7}, {7, 5, math.MinInt64, 7}, {math.MaxInt64, 5, 100, math.MaxInt64}, {7, math.MaxInt64, 100, 7},
		{7, 5, math.MaxInt64, 7}, {7, math.MinInt64, math.MinInt64, 7}, {7, math.MaxInt64, math.MaxInt64, 7}, {7, math.MinInt64, math.MaxInt64, 7},
		{math.MinInt64, math.MinInt64, math.MinInt64, math.MinInt64}, {math.MaxInt64, math.MaxInt64, math.MaxInt64, math.MaxInt64},
		{math.MinInt64, math.MinInt64, 0, math.MinInt64}, {math.MaxInt64, math.MaxInt64, 0, math.MaxInt64}, {math.MaxInt64, leastHad, mostHad, math.MaxInt64},
	}
	for _, k := range cases {
		if got := impl.Moved(k.had, k.from, k.to); got != k.want {
			t.Errorf("Moved(%d, %d, %d) = %d, not %d", k.had, k.from, k.to, got, k.want)
		}
	}
}

func TestMarkedCases(t *testing.T) {
	cases := []struct{ mark, first, want int64 }{
		{3, 8, 8}, {8, 3, 8}, {8, 8, 8}, {0, 0, 0}, {-3, -8, -3}, {-8, -3, -3}, {-8, 3, 3}, {3, -8, 3}, {leastHad, leastHad, leastHad}, {leastHad, leastHad + 1, leastHad + 1},
		{0, mostMark - 1, mostMark - 1}, {0, mostMark, mostMark}, {0, mostMark + 1, mostMark}, {0, mostHad, mostMark}, {mostMark - 1, 0, mostMark - 1}, {mostMark, 0, mostMark},
		{mostMark + 1, 0, mostMark}, {mostHad, 0, mostMark}, {mostMark, mostMark, mostMark}, {mostMark, mostMark + 1, mostMark}, {mostMark + 1, mostMark, mostMark},
		{mostMark + 1, mostMark + 1, mostMark}, {mostMark + 2, mostMark + 1, mostMark}, {mostHad, mostHad, mostMark}, {leastHad, mostHad, mostMark}, {mostHad, leastHad, mostMark},
		{-mostMark - 1, leastHad, -mostMark - 1}, {leastHad, -mostMark - 1, -mostMark - 1}, {leastHad, 0, 0},
		// One of them could be no Had.
		{3, mostHad + 1, 3}, {3, leastHad - 1, 3}, {mostMark + 1, mostHad + 1, mostMark + 1}, {mostHad, mostHad + 1, mostHad}, {mostHad, leastHad - 1, mostHad},
		{mostHad + 1, 3, mostHad + 1}, {mostHad + 1, mostHad, mostHad + 1}, {mostHad + 1, mostHad + 2, mostHad + 1}, {leastHad - 1, 3, leastHad - 1},
		{leastHad - 2, leastHad - 1, leastHad - 2}, {leastHad - 1, mostHad, leastHad - 1}, {leastHad, leastHad - 1, leastHad},
		{math.MinInt64, 8, math.MinInt64}, {3, math.MinInt64, 3}, {math.MaxInt64, 8, math.MaxInt64}, {3, math.MaxInt64, 3}, {math.MinInt64, math.MinInt64, math.MinInt64},
		{math.MaxInt64, math.MaxInt64, math.MaxInt64}, {math.MinInt64, math.MaxInt64, math.MinInt64}, {math.MaxInt64, math.MinInt64, math.MaxInt64},
	}
	for _, k := range cases {
		if got := impl.Marked(k.mark, k.first); got != k.want {
			t.Errorf("Marked(%d, %d) = %d, not %d", k.mark, k.first, got, k.want)
		}
	}
}

// Of each mark every had around its band, from well below it to well above.
func TestTheWholeBand(t *testing.T) {
	for _, mark := range someMarks {
		for ahead := int64(-credit - 100); ahead <= lead+100; ahead++ {
			had := mark + ahead
			if want := areHads(had) && -credit <= ahead && ahead <= lead; impl.InBand(had, mark) != want {
				t.Fatalf("InBand(%d, %d) = %v", had, mark, !want)
			}
			if want := mark + max(ahead, -credit); impl.Placed(had, mark) != want {
				t.Fatalf("Placed(%d, %d) = %d, not %d", had, mark, impl.Placed(had, mark), want)
			}
		}
	}
}

// Promise 10: who was Placed is in the band, where it was no more than Lead ahead of the mark; who is further ahead, and
// who is in the band already, stays where it is; and to be Placed again changes nothing.
func TestWhoWasPlacedIsInTheBand(t *testing.T) {
	for _, mark := range someMarks {
		for _, had := range slices.Concat(hadsNear(mark), someMarks) {
			placed := impl.Placed(had, mark)
			if impl.InBand(placed, mark) != (had-mark <= lead) {
				t.Fatalf("InBand is %v of Placed(%d, %d) = %d", impl.InBand(placed, mark), had, mark, placed)
			}
			if placed < had || placed != had && (impl.InBand(had, mark) || had > mark) {
				t.Fatalf("Placed(%d, %d) = %d", had, mark, placed)
			}
			if impl.Placed(placed, mark) != placed {
				t.Fatalf("Placed(%d, %d) = %d, and Placed again it is %d", had, mark, placed, impl.Placed(placed, mark))
			}
		}
	}
}

// Whoever is behind another one is not ahead of it once both are Placed by one mark.
func TestPlacedKeepsTheOrder(t *testing.T) {
	for _, mark := range someMarks {
		list := slices.Sorted(slices.Values(hadsNear(mark)))
		for i := 1; i < len(list); i++ {
			if impl.Placed(list[i-1], mark) > impl.Placed(list[i], mark) {
				t.Fatalf("Placed by %d, %d is ahead of %d", mark, list[i-1], list[i])
			}
		}
	}
}

// Promise 10: Moved from one mark to another one and back is the same, where all that is told is a Had; and who was Moved
// is as far in the band there as it was here.
func TestMovedThereAndBack(t *testing.T) {
	for _, from := range someMarks {
		for _, had := range hadsNear(from) {
			for _, to := range someMarks {
				there := impl.Moved(had, from, to)
				if there-to != had-from {
					t.Fatalf("Moved(%d, %d, %d) = %d", had, from, to, there)
				}
				if !areHads(there) {
					continue
				}
				if back := impl.Moved(there, to, from); back != had {
					t.Fatalf("Moved(%d, %d, %d) = %d, and back it is %d", had, from, to, there, back)
				}
				if impl.InBand(there, to) != impl.InBand(had, from) {
					t.Fatalf("InBand(%d, %d) is %v, and InBand(%d, %d) is not", had, from, impl.InBand(had, from), there, to)
				}
			}
		}
	}
}

// To go by a mark between is to go straight on, as long as all of them are Hads; and from a mark to itself is nowhere.
func TestMovedByWayOfAnother(t *testing.T) {
	for _, from := range someMarks {
		for _, between := range someMarks {
			for _, to := range someMarks {
				for _, had := range []int64{from, leastHad, 0, mostHad} {
					by := impl.Moved(had, from, between)
					if areHads(by) && impl.Moved(by, between, to) != impl.Moved(had, from, to) {
						t.Fatalf("%d from %d to %d is %d, and by way of %d it is %d", had, from, to, impl.Moved(had, from, to), between, impl.Moved(by, between, to))
					}
				}
			}
		}
		for _, had := range slices.Concat(someMarks, noHadsNearby) {
			if got := impl.Moved(had, from, from); got != had {
				t.Fatalf("Moved(%d, %d, %d) = %d", had, from, from, got)
			}
		}
	}
}

// What passes the limits of a Had is answered as it is, and is no Had any more: it is in no band, and stays where it is.
func TestMovedPastTheLimits(t *testing.T) {
	for past := int64(-3); past <= 3; past++ {
		for _, limit := range []int64{leastHad, mostHad} {
			for _, k := range []struct{ had, from, to int64 }{
				{limit, 0, past}, {limit, -past, 0}, {past, 0, limit}, {0, -past, limit}, {past, -limit, 0}, {limit / 2, past, limit/2 + 2*past},
			} {
				there := impl.Moved(k.had, k.from, k.to)
				if there != limit+past {
					t.Fatalf("Moved(%d, %d, %d) = %d, not %d", k.had, k.from, k.to, there, limit+past)
				}
				back, want := impl.Moved(there, k.to, k.from), k.had
				if !areHads(there) {
					want = there
				}
				if back != want || impl.InBand(there, limit) != areHads(there) {
					t.Fatalf("Moved(%d, %d, %d) = %d, InBand of %d is %v, and back it is %d", k.had, k.from, k.to, there, limit, impl.InBand(there, limit), back)
				}
			}
		}
	}
}

// Who wakes elsewhere is Moved and then Placed: it is in the band there, where it was not ahead of the band here.
func TestMovedAndThenPlaced(t *testing.T) {
	for _, from := range someMarks {
		for _, to := range someMarks {
			for _, had := range hadsNear(from) {
				there := impl.Moved(had, from, to)
				placed := impl.Placed(there, to)
				if areHads(placed) && impl.InBand(placed, to) != (had-from <= lead) {
					t.Fatalf("%d from %d to %d is %d, Placed %d, and InBand is %v", had, from, to, there, placed, impl.InBand(placed, to))
				}
			}
		}
	}
}

// Marked never falls, is never above MaxMark, and is one of the two or MaxMark, whichever of them comes first.
func TestMarkedNeverFalls(t *testing.T) {
	for _, mark := range someMarks {
		for _, first := range slices.Concat(hadsNear(mark), someMarks) {
			got := impl.Marked(mark, first)
			if got > mostMark || got < min(mark, mostMark) || got < min(first, mostMark) {
				t.Fatalf("Marked(%d, %d) = %d", mark, first, got)
			}
			if got != mark && got != first && got != mostMark {
				t.Fatalf("Marked(%d, %d) = %d, which is neither, nor %d", mark, first, got, int64(mostMark))
			}
			if got != impl.Marked(first, mark) || got != impl.Marked(got, first) || got != impl.Marked(got, mark) {
				t.Fatalf("Marked(%d, %d) = %d, and changed about, or again, it is not", mark, first, got)
			}
		}
	}
}

// A mark that follows one Had after the other is the greatest of them so far, up to MaxMark, where it stays.
func TestMarkedOverALongWhile(t *testing.T) {
	mark, greatest := int64(leastHad), int64(leastHad)
	for i := range int64(200000) {
		first := leastHad + i*10*million + i*7919%lead - lead/2
		next := impl.Marked(mark, first)
		if areHads(first) {
			greatest = max(greatest, first)
		}
		if next < mark || next != min(greatest, mostMark) {
			t.Fatalf("Marked(%d, %d) = %d, and the greatest was %d", mark, first, next, greatest)
		}
		mark = next
	}
	if mark != mostMark {
		t.Fatalf("the mark ends at %d", mark)
	}
}

// What is no Had is none in every place, one at a time and all together.
func TestWhatIsNoHad(t *testing.T) {
	for _, n := range noHadsNearby {
		for _, a := range someMarks {
			if impl.InBand(n, a) || impl.InBand(a, n) {
				t.Fatalf("InBand of %d, with %d", n, a)
			}
			if impl.Placed(a, n) != a || impl.Marked(a, n) != a || impl.Marked(n, a) != n {
				t.Fatalf("of %d and %d: %d, %d, %d", a, n, impl.Placed(a, n), impl.Marked(a, n), impl.Marked(n, a))
			}
			for _, b := range someMarks {
				if impl.Moved(n, a, b) != n || impl.Moved(a, n, b) != a || impl.Moved(a, b, n) != a {
					t.Fatalf("Moved of %d, with %d and %d: %d, %d, %d", n, a, b, impl.Moved(n, a, b), impl.Moved(a, n, b), impl.Moved(a, b, n))
				}
			}
		}
		if impl.InBand(n, n) || impl.Placed(n, n) != n || impl.Moved(n, n, n) != n || impl.Marked(n, n) != n {
			t.Fatalf("of %d alone: %v, %d, %d, %d", n, impl.InBand(n, n), impl.Placed(n, n), impl.Moved(n, n, n), impl.Marked(n, n))
		}
	}
}

// A had and a mark that are both no Hads are in no band, and stay, however near each other they lie; those that would
// lie past the extreme int64 wrap round to its other end, where there are no Hads either.
func TestNoHadsNearEachOther(t *testing.T) {
	for _, mark := range noHadsNearby {
		for _, ahead := range aroundBand {
			had := mark + ahead
			checkBand(t, had, mark)
			for _, to := range []int64{mark, had, mark + 1, mark - 1, 0, mostHad, leastHad} {
				checkMoved(t, had, mark, to)
				checkMoved(t, had, to, mark)
			}
			if areHads(had) {
				continue
			}
			if impl.InBand(had, mark) || impl.Placed(had, mark) != had || impl.Marked(mark, had) != mark || impl.Moved(had, mark, had) != had {
				t.Fatalf("of %d and %d: %v, %d, %d, %d", had, mark, impl.InBand(had, mark), impl.Placed(had, mark), impl.Marked(mark, had), impl.Moved(had, mark, had))
			}
		}
	}
}

// Every choice of right and wrong numbers, up to the extreme int64, in every place.
func TestBandHeldAgainstAReckoning(t *testing.T) {
	numbers := slices.Concat(someMarks, noHadsNearby, extremes)
	for _, a := range numbers {
		for _, b := range numbers {
			checkBand(t, a, b)
			for _, c := range numbers {
				checkMoved(t, a, b, c)
			}
		}
	}
}
