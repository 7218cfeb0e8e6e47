package tests

import (
	"math"
	"slices"
	"strings"
	"testing"

	"loop.example/g00553/impl"
)

// noSets and noBenches hold what looks like a set, or like a bench, in its lowest bits alone, beside what is just out of
// range and as far out as can be.
var (
	noSets = []int64{
		math.MinInt64, math.MinInt64 + 1, math.MinInt64 + 137, math.MinInt32, -billion, -512, -257, -256, -255, -128, -8, -2, -1,
		256, 257, 256 + 137, 511, 512, 1024, 65535, billion, math.MaxInt32, 1<<32 + 137, math.MaxInt64 - 1, math.MaxInt64,
	}
	noBenches = []int64{
		math.MinInt64, math.MinInt64 + 7, math.MinInt32, -billion, -256, -64, -63, -8, -7, -2, -1,
		8, 9, 15, 31, 32, 62, 63, 64, 65, 71, 255, 256, billion, math.MaxInt32, 1<<32 + 7, math.MaxInt64 - 1, math.MaxInt64,
	}
)

// binary writes a set as eight digits by halving, so that what the tests want doesn't hang on the shifts that the
// program is made of.
func binary(s int64) string {
	var digits strings.Builder
	for range 8 {
		digits.WriteByte("01"[s%2])
		s /= 2
	}
	return digits.String()
}

func wantMembers(s int64) []int64 {
	list := []int64{}
	if !isFrom(s, 0, 255) {
		return list
	}
	for i, digit := range binary(s) {
		if digit == '1' {
			list = append(list, int64(i))
		}
	}
	return list
}

func wantFirst(s int64) int64 {
	if list := wantMembers(s); len(list) > 0 {
		return list[0]
	}
	return -1
}

func TestSetCases(t *testing.T) {
	cases := []struct {
		s       int64
		ok      bool
		members []int64
		first   int64
	}{
		{0, true, nil, -1},
		{1, true, []int64{0}, 0},
		{2, true, []int64{1}, 1},
		{3, true, []int64{0, 1}, 0},
		{8, true, []int64{3}, 3},
		{127, true, []int64{0, 1, 2, 3, 4, 5, 6}, 0},
		{128, true, []int64{7}, 7},
		{137, true, []int64{0, 3, 7}, 0},
		{192, true, []int64{6, 7}, 6},
		{254, true, []int64{1, 2, 3, 4, 5, 6, 7}, 1},
		{255, true, []int64{0, 1, 2, 3, 4, 5, 6, 7}, 0},
		{-1, false, nil, -1},
		{256, false, nil, -1},
		{257, false, nil, -1},
		{math.MinInt64, false, nil, -1},
		{math.MaxInt64, false, nil, -1},
	}
	for _, k := range cases {
		if got := impl.SetOk(k.s); got != k.ok {
			t.Errorf("SetOk(%d) = %v", k.s, got)
		}
		if got := impl.Members(k.s); !slices.Equal(got, k.members) {
			t.Errorf("Members(%d) = %v, not %v", k.s, got, k.members)
		}
		if got := impl.FirstOf(k.s); got != k.first {
			t.Errorf("FirstOf(%d) = %d, not %d", k.s, got, k.first)
		}
	}
}

func TestInSetCases(t *testing.T) {
	cases := []struct {
		s, i int64
		want bool
	}{
		{137, 0, true},
		{137, 1, false},
		{137, 3, true},
		{137, 7, true},
		{0, 0, false},
		{0, 7, false},
		{255, 0, true},
		{255, 7, true},
		{255, -1, false},
		{255, 8, false},
		{-1, 0, false},
		{-1, 7, false},
		{256, 0, false},
		{256, 8, false},
		{257, 0, false},
		{-1, -1, false},
		{256, -1, false},
		{255, math.MinInt64, false},
		{255, math.MaxInt64, false},
		{math.MinInt64, 0, false},
		{math.MaxInt64, 0, false},
		{math.MinInt64, 63, false},
		{math.MinInt64, math.MinInt64, false},
		{math.MaxInt64, math.MaxInt64, false},
	}
	for _, k := range cases {
		if got := impl.InSet(k.s, k.i); got != k.want {
			t.Errorf("InSet(%d, %d) = %v", k.s, k.i, got)
		}
	}
}

// Promise 2, of every set and bench there are: who is in a set is among its members, and nobody else is.
func TestEverySetHasItsMembers(t *testing.T) {
	for s := int64(0); s <= 255; s++ {
		want := wantMembers(s)
		got := impl.Members(s)
		if !slices.Equal(got, want) {
			t.Fatalf("Members(%d) = %v, not %v", s, got, want)
		}
		if first := impl.FirstOf(s); first != wantFirst(s) {
			t.Fatalf("FirstOf(%d) = %d, not %d", s, first, wantFirst(s))
		}
		if !impl.SetOk(s) {
			t.Fatalf("SetOk(%d) is false", s)
		}
		for i := int64(0); i <= 7; i++ {
			if in := impl.InSet(s, i); in != slices.Contains(want, i) {
				t.Fatalf("InSet(%d, %d) = %v", s, i, in)
			}
		}
		for _, i := range noBenches {
			if impl.InSet(s, i) {
				t.Fatalf("InSet(%d, %d) is true", s, i)
			}
		}
	}
}

// A set is no more than its members: their powers of two make it up again.
func TestMembersMakeTheirSet(t *testing.T) {
	powers := []int64{1, 2, 4, 8, 16, 32, 64, 128}
	for s := int64(0); s <= 255; s++ {
		sum := int64(0)
		last := int64(-1)
		for _, i := range impl.Members(s) {
			if !isFrom(i, last+1, 7) {
				t.Fatalf("Members(%d) = %v does not rise to 7 at most", s, impl.Members(s))
			}
			last = i
			sum += powers[i]
		}
		if sum != s {
			t.Fatalf("Members(%d) = %v makes %d", s, impl.Members(s), sum)
		}
	}
}

func TestWhatIsNoSetHasNothing(t *testing.T) {
	for _, s := range noSets {
		if impl.SetOk(s) {
			t.Errorf("SetOk(%d) is true", s)
		}
		if got := impl.Members(s); len(got) != 0 {
			t.Errorf("Members(%d) = %v", s, got)
		}
		if got := impl.FirstOf(s); got != -1 {
			t.Errorf("FirstOf(%d) = %d", s, got)
		}
		for i := int64(0); i <= 7; i++ {
			if impl.InSet(s, i) {
				t.Errorf("InSet(%d, %d) is true", s, i)
			}
		}
		for _, i := range noBenches {
			if impl.InSet(s, i) {
				t.Errorf("InSet(%d, %d) is true", s, i)
			}
		}
	}
}

// Whatever is written into one answer, or behind it, is not seen in another.
func TestMembersIsNewMemory(t *testing.T) {
	for s := int64(-1); s <= 256; s++ {
		one, other := impl.Members(s), impl.Members(s)
		for i := range one {
			one[i] = -9
		}
		_ = append(one, -9)
		if !slices.Equal(other, wantMembers(s)) || !slices.Equal(impl.Members(s), wantMembers(s)) {
			t.Fatalf("Members(%d) shares its memory: %v", s, other)
		}
	}
}
