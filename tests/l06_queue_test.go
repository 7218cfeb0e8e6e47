package tests

import (
	"math"
	"slices"
	"testing"

	"loop.example/g00553/impl"
)

const (
	trillion = 1000000000000
	mostHad  = trillion
	leastHad = -trillion
)

// noHads and noWhos hold what is just out of range, as far out as can be, and what looks right in its lowest bits alone.
var (
	noHads = []int64{
		math.MinInt64, math.MinInt64 + 1, math.MinInt64 + 5, -1 << 62, -1<<62 + 5, -1 << 41, leastHad - 2, leastHad - 1,
		mostHad + 1, mostHad + 2, 1 << 40, 1 << 41, 1<<62 + 5, 1 << 62, math.MaxInt64 - 5, math.MaxInt64 - 1, math.MaxInt64,
	}
	noWhos = []int64{
		math.MinInt64, math.MinInt64 + 1, math.MinInt64 + 7, math.MinInt32, -1<<32 + 7, -billion, -256, -249, -100, -99, -2, -1,
		100, 101, 128, 255, 256, 263, 65543, billion, math.MaxInt32, 1 << 32, 1<<32 + 7, math.MaxInt64 - 1, math.MaxInt64,
	}
)

func entry(had, who int64) impl.Entry { return impl.Entry{Had: had, Who: who} }

func wantEntryOk(e impl.Entry) bool {
	return isFrom(e.Had, leastHad, mostHad) && isFrom(e.Who, 0, 99)
}

// wantQueueOk holds every two Entries against each other, where the program looks at neighbours.
func wantQueueOk(q []impl.Entry) bool {
	if len(q) > 100 {
		return false
	}
	for i, b := range q {
		if !wantEntryOk(b) {
			return false
		}
		for _, a := range q[:i] {
			if a.Who == b.Who || a.Had > b.Had || a.Had == b.Had && a.Who > b.Who {
				return false
			}
		}
	}
	return true
}

func wantIsThere(q []impl.Entry, who int64) bool {
	return slices.ContainsFunc(q, func(e impl.Entry) bool { return e.Who == who })
}

// wantQueued counts who is ahead of e and lays it down there: there is no heap in it.
func wantQueued(q []impl.Entry, e impl.Entry) ([]impl.Entry, bool) {
	if !wantQueueOk(q) {
		return nil, false
	}
	if !wantEntryOk(e) || wantIsThere(q, e.Who) || len(q) >= 100 {
		return slices.Clone(q), false
	}
	ahead := 0
	for _, o := range q {
		if o.Had < e.Had || o.Had == e.Had && o.Who < e.Who {
			ahead++
		}
	}
	return slices.Concat(q[:ahead], []impl.Entry{e}, q[ahead:]), true
}

func wantUnqueued(q []impl.Entry, who int64) ([]impl.Entry, bool) {
	if !wantQueueOk(q) {
		return nil, false
	}
	left := []impl.Entry{}
	for _, e := range q {
		if e.Who != who {
			left = append(left, e)
		}
	}
	return left, len(left) < len(q)
}

func wantFirstIn(q []impl.Entry) (impl.Entry, bool) {
	if !wantQueueOk(q) || len(q) == 0 {
		return impl.Entry{}, false
	}
	return q[0], true
}

// lent is a queue with spare room behind it. What stands in that room would belong to the queue if it were one longer.
type lent struct{ queue, whole, before []impl.Entry }

func lend(q []impl.Entry) lent {
	before := slices.Concat(q, []impl.Entry{entry(mostHad-1, 97), entry(mostHad, 98), entry(-7, -7)})
	whole := slices.Clone(before)
	return lent{queue: whole[:len(q)], whole: whole, before: before}
}

func (l lent) checkStays(t *testing.T) {
	t.Helper()
	if !slices.Equal(l.whole, l.before) {
		t.Fatalf("%v became %v", l.before, l.whole)
	}
}

// checkApart writes over an answer and over all the spare room behind it, and asks that the queue stays; then it writes
// over the queue that was handed in, and asks that the answer stays.
func (l lent) checkApart(t *testing.T, answer []impl.Entry) {
	t.Helper()
	l.checkStays(t)
	all := answer[:cap(answer)]
	for i := range all {
		all[i] = entry(-11, -11)
	}
	l.checkStays(t)
	for i := range l.whole {
		l.whole[i] = entry(-12, -12)
	}
	if slices.Contains(all, entry(-12, -12)) {
		t.Fatalf("the answer to %v shares its memory", l.before)
	}
}

func checkQueued(t *testing.T, q []impl.Entry, e impl.Entry) {
	t.Helper()
	l := lend(q)
	want, is := wantQueued(q, e)
	got, ok := impl.Queued(l.queue, e)
	if ok != is || !slices.Equal(got, want) {
		t.Fatalf("Queued(%v, %v) = %v, %v, not %v, %v", q, e, got, ok, want, is)
	}
	l.checkApart(t, got)
}

func checkUnqueued(t *testing.T, q []impl.Entry, who int64) {
	t.Helper()
	l := lend(q)
	want, is := wantUnqueued(q, who)
	got, ok := impl.Unqueued(l.queue, who)
	if ok != is || !slices.Equal(got, want) {
		t.Fatalf("Unqueued(%v, %d) = %v, %v, not %v, %v", q, who, got, ok, want, is)
	}
	l.checkApart(t, got)
}

func checkQueue(t *testing.T, q []impl.Entry) {
	t.Helper()
	l := lend(q)
	if got := impl.QueueOk(l.queue); got != wantQueueOk(q) {
		t.Fatalf("QueueOk(%v) = %v", q, got)
	}
	want, is := wantFirstIn(q)
	if got, ok := impl.FirstIn(l.queue); ok != is || got != want {
		t.Fatalf("FirstIn(%v) = %v, %v, not %v, %v", q, got, ok, want, is)
	}
	l.checkStays(t)
}

// checkThereAndBack is promise 6 by its words: e goes in, nobody is lost, the first has the least Had of all, and with e
// taken out again the queue is as it was.
func checkThereAndBack(t *testing.T, q []impl.Entry, e impl.Entry) {
	t.Helper()
	longer, ok := impl.Queued(q, e)
	if !ok || !impl.QueueOk(longer) || len(longer) != len(q)+1 || !slices.Contains(longer, e) {
		t.Fatalf("Queued(%v, %v) = %v, %v", q, e, longer, ok)
	}
	for _, o := range q {
		if !slices.Contains(longer, o) {
			t.Fatalf("Queued(%v, %v) = %v lost %v", q, e, longer, o)
		}
	}
	first, is := impl.FirstIn(longer)
	for _, o := range longer {
		if !is || first.Had > o.Had || first.Had == o.Had && first.Who > o.Who {
			t.Fatalf("FirstIn(%v) = %v, %v", longer, first, is)
		}
	}
	back, out := impl.Unqueued(longer, e.Who)
	if !out || !slices.Equal(back, q) {
		t.Fatalf("Unqueued(%v, %d) = %v, %v, not %v", longer, e.Who, back, out, q)
	}
}

// fewEntries holds nine Entries in order: three Hads and three Whos.
func fewEntries() []impl.Entry {
	list := []impl.Entry{}
	for had := int64(-1); had <= 1; had++ {
		for who := int64(0); who <= 2; who++ {
			list = append(list, entry(had, who))
		}
	}
	return list
}

// allLists makes every list of these of at most that length: queues, and many more that are none.
func allLists(of []impl.Entry, length int) [][]impl.Entry {
	lists := [][]impl.Entry{nil}
	longest := lists
	for range length {
		longer := [][]impl.Entry{}
		for _, q := range longest {
			for _, e := range of {
				longer = append(longer, slices.Concat(q, []impl.Entry{e}))
			}
		}
		lists = append(lists, longer...)
		longest = longer
	}
	return lists
}

// manyQueues holds queues of none to a hundred Entries: with all Hads unlike and Whos that rise, fall or are mixed, with
// some Hads alike, and with all alike.
func manyQueues() [][]impl.Entry {
	queues := [][]impl.Entry{}
	for _, n := range []int64{0, 1, 2, 3, 4, 5, 6, 7, 8, 9, 15, 16, 17, 31, 32, 50, 64, 98, 99, 100} {
		rising, falling, mixed, steps, alike := []impl.Entry{}, []impl.Entry{}, []impl.Entry{}, []impl.Entry{}, []impl.Entry{}
		for i := range n {
			rising = append(rising, entry(10*i-500, i))
			falling = append(falling, entry(10*i-500, 99-i))
			mixed = append(mixed, entry(i*i, i*37%100))
			steps = append(steps, entry(i/7*7, i))
			alike = append(alike, entry(mostHad, i))
		}
		if n > 1 {
			falling[0].Had, falling[n-1].Had = leastHad, mostHad
		}
		queues = append(queues, rising, falling, mixed, steps, alike)
	}
	return queues
}

// wrongQueues holds a list for each thing that can be wrong with a queue; all but that is right.
func wrongQueues() [][]impl.Entry {
	a, b, c := entry(-3, 7), entry(5, 1), entry(5, 2)
	full := []impl.Entry{}
	for i := range int64(100) {
		full = append(full, entry(10*i, i))
	}
	long := make([]impl.Entry, 100000)
	for i := range long {
		long[i] = entry(int64(i), int64(i))
	}
	lists := [][]impl.Entry{
		{b, a}, {c, b}, {a, c, b}, {b, a, c}, {c, b, a}, {c, a, b}, {b, c, a}, {a, b, c, entry(4, 3)}, {a, b, c, entry(5, 0)},
		{a, a}, {b, b}, {a, a, b}, {a, b, b}, {a, b, c, c}, {a, b, a},
		{a, entry(-2, 7)}, {a, b, entry(6, 7)}, {a, b, c, entry(6, 7)}, {a, b, c, entry(6, 1)}, {a, b, c, entry(6, 2)},
		slices.Concat(full, []impl.Entry{entry(1000, 100)}),
		slices.Concat(full, []impl.Entry{entry(1000, 99)}),
		slices.Concat(full, []impl.Entry{entry(1000, 0)}),
		slices.Concat([]impl.Entry{entry(-1, -1)}, full),
		slices.Concat([]impl.Entry{entry(-1, 50)}, full),
		slices.Concat(full, full),
		slices.Concat(full[:99], []impl.Entry{entry(1000, 0)}),
		slices.Concat(full[:99], []impl.Entry{entry(980, 98)}),
		slices.Concat(full[:99], []impl.Entry{entry(979, 99)}),
		long, make([]impl.Entry, 100), make([]impl.Entry, 2),
	}
	for _, n := range noHads {
		lists = append(lists, []impl.Entry{entry(n, 7)}, []impl.Entry{entry(n, 7), b, c}, []impl.Entry{a, entry(n, 1), c}, []impl.Entry{a, b, entry(n, 2)})
	}
	for _, n := range noWhos {
		lists = append(lists, []impl.Entry{entry(-3, n)}, []impl.Entry{entry(-3, n), b, c}, []impl.Entry{a, entry(4, n), c}, []impl.Entry{a, b, entry(6, n)}, []impl.Entry{entry(n, n)})
	}
	return lists
}

// A list in order tells of every two of its Entries which one is less. Those that are no right Entries have their order,
// too, and so have those whose Hads are too far apart to be subtracted.
func TestEntryLessByHadThenByWho(t *testing.T) {
	numbers := []int64{
		math.MinInt64, math.MinInt64 + 1, -1 << 62, leastHad - 1, leastHad, leastHad + 1, -1 << 32, -2, -1,
		0, 1, 2, 98, 99, 100, 1 << 32, mostHad - 1, mostHad, mostHad + 1, 1 << 62, math.MaxInt64 - 1, math.MaxInt64,
	}
	list := []impl.Entry{}
	for _, had := range numbers {
		for _, who := range numbers {
			list = append(list, entry(had, who))
		}
	}
	for i, a := range list {
		for j, b := range list {
			if got := impl.EntryLess(a, b); got != (i < j) {
				t.Fatalf("EntryLess(%v, %v) = %v", a, b, got)
			}
		}
	}
}

func TestQueueOkCases(t *testing.T) {
	cases := []struct {
		q    []impl.Entry
		want bool
	}{
		{nil, true}, {[]impl.Entry{}, true}, {[]impl.Entry{{}}, true},
		{[]impl.Entry{entry(5, 1), entry(5, 2)}, true}, {[]impl.Entry{entry(5, 2), entry(5, 1)}, false},
		{[]impl.Entry{entry(4, 2), entry(5, 1)}, true}, {[]impl.Entry{entry(5, 1), entry(4, 2)}, false},
		{[]impl.Entry{entry(5, 1), entry(5, 1)}, false}, {[]impl.Entry{entry(4, 1), entry(5, 1)}, false},
		{[]impl.Entry{entry(4, 1), entry(5, 2), entry(6, 1)}, false}, {[]impl.Entry{entry(4, 1), entry(5, 2), entry(6, 3)}, true},
		{[]impl.Entry{entry(leastHad, 0)}, true}, {[]impl.Entry{entry(leastHad-1, 0)}, false},
		{[]impl.Entry{entry(mostHad, 0)}, true}, {[]impl.Entry{entry(mostHad+1, 0)}, false},
		{[]impl.Entry{entry(0, 99)}, true}, {[]impl.Entry{entry(0, 100)}, false}, {[]impl.Entry{entry(0, -1)}, false},
		{[]impl.Entry{entry(leastHad, 99), entry(mostHad, 0)}, true}, {[]impl.Entry{entry(mostHad, 0), entry(leastHad, 99)}, false},
	}
	for _, k := range cases {
		if got := impl.QueueOk(k.q); got != k.want {
			t.Errorf("QueueOk(%v) = %v", k.q, got)
		}
	}
}

func TestQueuedCases(t *testing.T) {
	a, b, c := entry(-3, 7), entry(5, 1), entry(5, 3)
	q := []impl.Entry{a, b, c}
	cases := []struct {
		q    []impl.Entry
		e    impl.Entry
		want []impl.Entry
		ok   bool
	}{
		{nil, a, []impl.Entry{a}, true}, {[]impl.Entry{}, impl.Entry{}, []impl.Entry{{}}, true},
		{[]impl.Entry{b}, a, []impl.Entry{a, b}, true}, {[]impl.Entry{a}, b, []impl.Entry{a, b}, true},
		{[]impl.Entry{b}, c, []impl.Entry{b, c}, true}, {[]impl.Entry{c}, b, []impl.Entry{b, c}, true},
		{q, entry(-4, 9), []impl.Entry{entry(-4, 9), a, b, c}, true}, {q, entry(-3, 6), []impl.Entry{entry(-3, 6), a, b, c}, true},
		{q, entry(-3, 8), []impl.Entry{a, entry(-3, 8), b, c}, true}, {q, entry(5, 0), []impl.Entry{a, entry(5, 0), b, c}, true},
		{q, entry(5, 2), []impl.Entry{a, b, entry(5, 2), c}, true}, {q, entry(5, 4), []impl.Entry{a, b, c, entry(5, 4)}, true},
		{q, entry(6, 0), []impl.Entry{a, b, c, entry(6, 0)}, true}, {q, entry(leastHad, 99), []impl.Entry{entry(leastHad, 99), a, b, c}, true},
		{q, entry(mostHad, 0), []impl.Entry{a, b, c, entry(mostHad, 0)}, true}, {q, entry(0, 0), []impl.Entry{a, entry(0, 0), b, c}, true},
		{q, a, q, false}, {q, entry(0, 7), q, false}, {q, entry(9, 1), q, false}, {q, entry(-9, 3), q, false},
		{q, entry(leastHad-1, 9), q, false}, {q, entry(mostHad+1, 9), q, false}, {q, entry(0, -1), q, false}, {q, entry(0, 100), q, false},
		{nil, entry(0, 100), nil, false}, {nil, entry(math.MinInt64, 0), nil, false},
		{[]impl.Entry{b, a}, c, nil, false}, {[]impl.Entry{a, a}, b, nil, false}, {[]impl.Entry{b, a}, a, nil, false}, {[]impl.Entry{entry(0, 100)}, a, nil, false},
	}
	for _, k := range cases {
		if got, ok := impl.Queued(k.q, k.e); ok != k.ok || !slices.Equal(got, k.want) {
			t.Errorf("Queued(%v, %v) = %v, %v, not %v, %v", k.q, k.e, got, ok, k.want, k.ok)
		}
	}
}

func TestUnqueuedAndFirstInCases(t *testing.T) {
	a, b, c := entry(-3, 7), entry(5, 1), entry(5, 3)
	q := []impl.Entry{a, b, c}
	cases := []struct {
		q     []impl.Entry
		who   int64
		want  []impl.Entry
		ok    bool
		first impl.Entry
		is    bool
	}{
		{q, 7, []impl.Entry{b, c}, true, a, true}, {q, 1, []impl.Entry{a, c}, true, a, true}, {q, 3, []impl.Entry{a, b}, true, a, true},
		{q, 0, q, false, a, true}, {q, 2, q, false, a, true}, {q, -3, q, false, a, true}, {q, 5, q, false, a, true},
		{q, -1, q, false, a, true}, {q, 100, q, false, a, true}, {q, math.MinInt64, q, false, a, true}, {q, math.MaxInt64, q, false, a, true},
		{[]impl.Entry{c}, 3, nil, true, c, true}, {[]impl.Entry{{}}, 0, nil, true, impl.Entry{}, true}, {[]impl.Entry{{}}, 1, []impl.Entry{{}}, false, impl.Entry{}, true},
		{nil, 0, nil, false, impl.Entry{}, false}, {[]impl.Entry{}, 0, nil, false, impl.Entry{}, false}, {nil, -1, nil, false, impl.Entry{}, false},
		{[]impl.Entry{b, a}, 7, nil, false, impl.Entry{}, false}, {[]impl.Entry{a, a}, 7, nil, false, impl.Entry{}, false},
		{[]impl.Entry{a, entry(0, 7)}, 7, nil, false, impl.Entry{}, false}, {[]impl.Entry{a, entry(0, 100)}, 100, nil, false, impl.Entry{}, false},
	}
	for _, k := range cases {
		if got, ok := impl.Unqueued(k.q, k.who); ok != k.ok || !slices.Equal(got, k.want) {
			t.Errorf("Unqueued(%v, %d) = %v, %v, not %v, %v", k.q, k.who, got, ok, k.want, k.ok)
		}
		if got, is := impl.FirstIn(k.q); is != k.is || got != k.first {
			t.Errorf("FirstIn(%v) = %v, %v, not %v, %v", k.q, got, is, k.first, k.is)
		}
	}
}

// Every list of at most three of nine Entries, queues or not, with every Entry and every Who, right ones and wrong ones.
func TestEveryShortList(t *testing.T) {
	entries := append(fewEntries(), entry(0, 3), entry(leastHad, 3), entry(mostHad, 99), entry(0, -1), entry(0, 100), entry(leastHad-1, 3), entry(mostHad+1, 3))
	for _, q := range allLists(fewEntries(), 3) {
		checkQueue(t, q)
		for _, e := range entries {
			checkQueued(t, q, e)
		}
		for who := int64(-1); who <= 4; who++ {
			checkUnqueued(t, q, who)
		}
	}
}

// Every list of at most two Entries whose numbers are at a limit, one past it, or as far out as can be.
func TestEveryPairNearTheLimits(t *testing.T) {
	near := []impl.Entry{}
	for _, had := range []int64{math.MinInt64, leastHad - 1, leastHad, 0, mostHad, mostHad + 1, math.MaxInt64} {
		for _, who := range []int64{math.MinInt64, -1, 0, 99, 100, math.MaxInt64} {
			near = append(near, entry(had, who))
		}
	}
	for _, q := range allLists(near, 2) {
		checkQueue(t, q)
		for _, e := range near {
			checkQueued(t, q, e)
			checkUnqueued(t, q, e.Who)
		}
	}
}

// Promise 6, of queues of none to a hundred Entries.
func TestWhatWasQueuedCanBeUnqueued(t *testing.T) {
	checkThereAndBack(t, nil, entry(0, 0))
	for _, q := range manyQueues() {
		for place := range q {
			shorter := slices.Concat(q[:place], q[place+1:])
			checkThereAndBack(t, shorter, q[place])
			checkQueued(t, shorter, q[place])
			checkUnqueued(t, q, q[place].Who)
		}
		for who := int64(0); who <= 99; who++ {
			if wantIsThere(q, who) {
				continue
			}
			for _, had := range []int64{leastHad, -1, 7, 42, mostHad} {
				checkThereAndBack(t, q, entry(had, who))
			}
		}
	}
}

// Promise 6: the first, taken out again and again, is each time who had least of those left; all come out, in order.
func TestFirstIsWhoHadLeast(t *testing.T) {
	for _, q := range manyQueues() {
		left := q
		for _, want := range q {
			least := slices.MinFunc(left, func(a, b impl.Entry) int {
				if a.Had < b.Had || a.Had == b.Had && a.Who < b.Who {
					return -1
				}
				return 1
			})
			first, ok := impl.FirstIn(left)
			if !ok || first != want || first != least {
				t.Fatalf("FirstIn(%v) = %v, %v, not %v", left, first, ok, want)
			}
			left, ok = impl.Unqueued(left, first.Who)
			if !ok {
				t.Fatalf("Unqueued refused %v, the first", first)
			}
		}
		if first, ok := impl.FirstIn(left); ok || len(left) != 0 || first != (impl.Entry{}) {
			t.Fatalf("of %v there is %v left", q, left)
		}
	}
}

// In whatever order the Entries come, and in whatever order they go, it is the same queue.
func TestTheOrderOfComingIsOfNoMatter(t *testing.T) {
	for _, q := range manyQueues() {
		n := len(q)
		for _, step := range []int{1, 3, 7, 37, 99} {
			if n == 0 || gcd(step, n) != 1 {
				continue
			}
			got := []impl.Entry{}
			for i := range n {
				got, _ = impl.Queued(got, q[(i*step+5)%n])
			}
			if !slices.Equal(got, q) {
				t.Fatalf("queued by steps of %d, %v became %v", step, q, got)
			}
			for i := range n {
				checkUnqueued(t, got, q[(i*step+2)%n].Who)
				got, _ = impl.Unqueued(got, q[(i*step+2)%n].Who)
			}
			if len(got) != 0 {
				t.Fatalf("unqueued by steps of %d, of %v there is %v left", step, q, got)
			}
		}
	}
}

func gcd(a, b int) int {
	for b != 0 {
		a, b = b, a%b
	}
	return a
}

// Every Entry that may be the hundredth is taken; with a hundred there is room for none, whatever it is.
func TestAFullQueue(t *testing.T) {
	for _, q := range manyQueues() {
		if len(q) < 99 {
			continue
		}
		checkQueue(t, q)
		for _, had := range append([]int64{leastHad, -1, 0, 41, 42, 43, mostHad}, noHads...) {
			for who := int64(-1); who <= 100; who++ {
				checkQueued(t, q, entry(had, who))
			}
		}
		for who := int64(-1); who <= 100; who++ {
			checkUnqueued(t, q, who)
		}
	}
}

// Of what is no queue nothing is told, whatever is asked.
func TestWrongQueuesHaveNothing(t *testing.T) {
	for _, q := range wrongQueues() {
		if wantQueueOk(q) {
			t.Fatalf("%v is right", q)
		}
		checkQueue(t, q)
		for _, e := range slices.Concat(q[:min(len(q), 4)], []impl.Entry{{}, entry(5, 9), entry(mostHad, 98), entry(0, 100), entry(math.MaxInt64, math.MinInt64)}) {
			checkQueued(t, q, e)
			checkUnqueued(t, q, e.Who)
		}
		if got, ok := impl.Queued(q, entry(5, 9)); ok || len(got) != 0 {
			t.Fatalf("Queued(%v, ..) = %v, %v", q, got, ok)
		}
		if got, ok := impl.Unqueued(q, q[0].Who); ok || len(got) != 0 {
			t.Fatalf("Unqueued(%v, %d) = %v, %v", q, q[0].Who, got, ok)
		}
	}
}

// A right queue refuses every Entry that is none, and stays as it is; there is no Who out of range to be taken out.
func TestWrongEntriesAndWhosAreRefused(t *testing.T) {
	for _, q := range [][]impl.Entry{nil, {entry(0, 0)}, {entry(leastHad, 99), entry(mostHad, 0)}, {entry(-3, 7), entry(5, 1), entry(5, 2)}} {
		for _, had := range append([]int64{leastHad, 0, mostHad}, noHads...) {
			for _, who := range noWhos {
				checkQueued(t, q, entry(had, who))
				checkQueued(t, q, entry(who, who))
			}
		}
		for _, had := range noHads {
			for who := int64(0); who <= 99; who++ {
				checkQueued(t, q, entry(had, who))
			}
		}
		for _, who := range append(noWhos, noHads...) {
			checkUnqueued(t, q, who)
			if got, ok := impl.Unqueued(q, who); ok || !slices.Equal(got, q) {
				t.Fatalf("Unqueued(%v, %d) = %v, %v", q, who, got, ok)
			}
		}
	}
}

// Two answers to one question share nothing, nor do two answers made of one another.
func TestQueuesAreNewMemory(t *testing.T) {
	for _, q := range [][]impl.Entry{{entry(-3, 7)}, {entry(-3, 7), entry(5, 1), entry(5, 2)}} {
		for _, e := range []impl.Entry{entry(0, 9), entry(9, 9), entry(-9, 9), entry(0, 7), entry(0, 100)} {
			want, _ := wantQueued(q, e)
			one, _ := impl.Queued(q, e)
			other, _ := impl.Queued(q, e)
			less, _ := impl.Unqueued(one, e.Who)
			left, _ := wantUnqueued(want, e.Who)
			for i := range one[:cap(one)] {
				one[:cap(one)][i] = entry(-11, -11)
			}
			if !slices.Equal(other, want) || !slices.Equal(less, left) {
				t.Fatalf("Queued(%v, %v): answers share memory: %v, %v", q, e, other, less)
			}
		}
	}
}
