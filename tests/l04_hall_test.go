package tests

import (
	"fmt"
	"math"
	"regexp"
	"slices"
	"strconv"
	"strings"
	"testing"

	"loop.example/g00553/impl"
)

const benchHall = "2 200:1 400:3/1 512:2 1024:8"

// wrongNumbers are right nowhere in a hall; those that look right in their lowest bits alone are among them.
var wrongNumbers = []int64{
	math.MinInt64, math.MinInt64 + 1, math.MinInt64 + 2, math.MinInt32, -billion, -1<<32 + 1, -1025, -1024, -256, -4, -2, -1, 0,
	1025, 1026, 2048, 65537, billion, math.MaxInt32, 1<<32 + 1, math.MaxInt64 - 1, math.MaxInt64,
}

func roomWith(benches int64, paces ...impl.Pace) impl.Room {
	return impl.Room{Benches: benches, Paces: paces}
}

func hallWith(rooms ...impl.Room) impl.Hall { return impl.Hall{Rooms: rooms} }

func copied(h impl.Hall) impl.Hall {
	c := impl.Hall{}
	for _, r := range h.Rooms {
		c.Rooms = append(c.Rooms, roomWith(r.Benches, slices.Clone(r.Paces)...))
	}
	return c
}

// sameHall asks field by field, nil and an empty list alike.
func sameHall(a, b impl.Hall) bool {
	return slices.EqualFunc(a.Rooms, b.Rooms, func(a, b impl.Room) bool {
		return a.Benches == b.Benches && slices.Equal(a.Paces, b.Paces)
	})
}

func wantRoomOk(r impl.Room) bool {
	if !isFrom(r.Benches, 1, 4) || len(r.Paces) < 1 || len(r.Paces) > 4 {
		return false
	}
	for i, p := range r.Paces {
		if !isFrom(p.Force, 1, 1024) || !isFrom(p.Coal, 1, 1024) {
			return false
		}
		for _, ahead := range r.Paces[:i] {
			if ahead.Force >= p.Force || ahead.Coal >= p.Coal {
				return false
			}
		}
	}
	return true
}

// wantRooms holds the room of each bench there is; nothing where it is no right hall.
func wantRooms(h impl.Hall) []int64 {
	list := []int64{}
	if len(h.Rooms) > 3 {
		return nil
	}
	for i, r := range h.Rooms {
		if !wantRoomOk(r) {
			return nil
		}
		for range r.Benches {
			list = append(list, int64(i))
		}
	}
	if len(list) > 8 {
		return nil
	}
	return list
}

func wantHallOk(h impl.Hall) bool { return len(wantRooms(h)) > 0 }

func wantBenchSet(h impl.Hall, room int64) int64 {
	powers := []int64{1, 2, 4, 8, 16, 32, 64, 128}
	set := int64(-1)
	for bench, of := range wantRooms(h) {
		if of == room {
			set = max(set, 0) + powers[bench]
		}
	}
	return set
}

func wantShown(h impl.Hall) string {
	if !wantHallOk(h) {
		return ""
	}
	text := ""
	for i, r := range h.Rooms {
		if i > 0 {
			text += "/"
		}
		text += fmt.Sprint(r.Benches)
		for _, p := range r.Paces {
			text += fmt.Sprintf(" %d:%d", p.Force, p.Coal)
		}
	}
	return text
}

const numberForm = `(0|-?[1-9][0-9]{0,8})`

var hallForm = regexp.MustCompile(strings.ReplaceAll(`^N( N:N)*(/N( N:N)*)*$`, "N", numberForm))

// wantRead asks for the form of the whole text first, so that nothing is left to do but to take its numbers.
func wantRead(s string) (impl.Hall, bool) {
	if !hallForm.MatchString(s) {
		return impl.Hall{}, false
	}
	h := impl.Hall{}
	for _, text := range strings.Split(s, "/") {
		numbers := []int64{}
		for _, digits := range strings.FieldsFunc(text, func(c rune) bool { return c == ' ' || c == ':' }) {
			n, err := strconv.Atoi(digits)
			if err != nil {
				panic(err)
			}
			numbers = append(numbers, int64(n))
		}
		r := roomWith(numbers[0])
		for i := 1; i < len(numbers); i += 2 {
			r.Paces = append(r.Paces, impl.Pace{Force: numbers[i], Coal: numbers[i+1]})
		}
		h.Rooms = append(h.Rooms, r)
	}
	if !wantHallOk(h) {
		return impl.Hall{}, false
	}
	return h, true
}

// checkHall holds every function that takes a hall against what is wanted of it.
func checkHall(t *testing.T, h impl.Hall) {
	t.Helper()
	given := copied(h)
	rooms := wantRooms(h)
	if got := impl.HallOk(h); got != wantHallOk(h) {
		t.Fatalf("HallOk(%v) = %v", h, got)
	}
	want := int64(len(rooms))
	if !wantHallOk(h) {
		want = -1
	}
	if got := impl.BenchesIn(h); got != want {
		t.Fatalf("BenchesIn(%v) = %d, not %d", h, got, want)
	}
	for bench := int64(-2); bench <= 14; bench++ {
		checkBench(t, h, bench)
	}
	for _, bench := range noBenches {
		checkBench(t, h, bench)
	}
	for room := int64(-2); room <= 6; room++ {
		checkBenchSet(t, h, room)
	}
	for _, room := range noBenches {
		checkBenchSet(t, h, room)
	}
	if got := impl.ShowHall(h); got != wantShown(h) {
		t.Fatalf("ShowHall(%v) = %q, not %q", h, got, wantShown(h))
	}
	if !sameHall(h, given) {
		t.Fatalf("%v became %v", given, h)
	}
}

func checkBench(t *testing.T, h impl.Hall, bench int64) {
	t.Helper()
	room, force := int64(-1), int64(-1)
	if rooms := wantRooms(h); isFrom(bench, 0, int64(len(rooms))-1) {
		room = rooms[bench]
		force = 0
		for _, p := range h.Rooms[room].Paces {
			force = max(force, p.Force)
		}
	}
	if got := impl.RoomOf(h, bench); got != room {
		t.Fatalf("RoomOf(%v, %d) = %d, not %d", h, bench, got, room)
	}
	if got := impl.ForceOf(h, bench); got != force {
		t.Fatalf("ForceOf(%v, %d) = %d, not %d", h, bench, got, force)
	}
}

func checkBenchSet(t *testing.T, h impl.Hall, room int64) {
	t.Helper()
	if got, want := impl.BenchSet(h, room), wantBenchSet(h, room); got != want {
		t.Fatalf("BenchSet(%v, %d) = %d, not %d", h, room, got, want)
	}
}

func checkRead(t *testing.T, s string) {
	t.Helper()
	want, is := wantRead(s)
	got, ok := impl.ReadHall(s)
	if ok != is || !sameHall(got, want) {
		t.Fatalf("ReadHall(%q) = %v, %v, not %v, %v", s, got, ok, want, is)
	}
	if shown := impl.ShowHall(got); ok && shown != s {
		t.Fatalf("ShowHall of ReadHall(%q) = %q", s, shown)
	}
}

// somePaces holds right lists of every length, with the limits of both numbers among them.
func somePaces() [][]impl.Pace {
	return [][]impl.Pace{
		{{Force: 1, Coal: 1}},
		{{Force: 1024, Coal: 1024}},
		{{Force: 1, Coal: 1024}},
		{{Force: 1024, Coal: 1}},
		{{Force: 200, Coal: 1}, {Force: 400, Coal: 3}},
		{{Force: 512, Coal: 2}, {Force: 1024, Coal: 8}},
		{{Force: 1, Coal: 1}, {Force: 1023, Coal: 2}, {Force: 1024, Coal: 1024}},
		{{Force: 1, Coal: 1021}, {Force: 2, Coal: 1022}, {Force: 3, Coal: 1023}, {Force: 4, Coal: 1024}},
		{{Force: 1021, Coal: 1}, {Force: 1022, Coal: 2}, {Force: 1023, Coal: 3}, {Force: 1024, Coal: 4}},
	}
}

// hallsOf makes a hall of every list of that many rooms with 0 to 5 benches each: right ones and wrong ones. The rooms
// of one hall have unlike Paces, so that one taken for another is seen.
func hallsOf(rooms int) []impl.Hall {
	halls := []impl.Hall{{}}
	for i := range rooms {
		longer := []impl.Hall{}
		for n, h := range halls {
			for benches := int64(0); benches <= 5; benches++ {
				paces := somePaces()[(n+2*i+int(benches))%len(somePaces())]
				longer = append(longer, hallWith(append(copied(h).Rooms, roomWith(benches, paces...))...))
			}
		}
		halls = longer
	}
	return halls
}

func allHalls() []impl.Hall {
	halls := []impl.Hall{}
	for rooms := range 5 {
		halls = append(halls, hallsOf(rooms)...)
	}
	return halls
}

func rightHalls(t *testing.T) []impl.Hall {
	t.Helper()
	halls := slices.DeleteFunc(allHalls(), func(h impl.Hall) bool { return !wantHallOk(h) })
	// 4 of one room, 16 of two, and of three the 64 less the 20 that have 9 benches or more.
	if len(halls) != 4+16+44 {
		t.Fatalf("%d right halls", len(halls))
	}
	return halls
}

func TestHallCases(t *testing.T) {
	h := hallWith(
		roomWith(2, impl.Pace{Force: 200, Coal: 1}, impl.Pace{Force: 400, Coal: 3}),
		roomWith(1, impl.Pace{Force: 512, Coal: 2}, impl.Pace{Force: 1024, Coal: 8}),
	)
	if !impl.HallOk(h) || !impl.RoomOk(h.Rooms[0]) || !impl.RoomOk(h.Rooms[1]) {
		t.Fatalf("%v is refused", h)
	}
	if got := impl.BenchesIn(h); got != 3 {
		t.Errorf("BenchesIn = %d", got)
	}
	for i, want := range []struct{ bench, room, force int64 }{{-1, -1, -1}, {0, 0, 400}, {1, 0, 400}, {2, 1, 1024}, {3, -1, -1}} {
		if got := impl.RoomOf(h, want.bench); got != want.room {
			t.Errorf("%d: RoomOf(%d) = %d", i, want.bench, got)
		}
		if got := impl.ForceOf(h, want.bench); got != want.force {
			t.Errorf("%d: ForceOf(%d) = %d", i, want.bench, got)
		}
	}
	for room, want := range map[int64]int64{-1: -1, 0: 3, 1: 4, 2: -1} {
		if got := impl.BenchSet(h, room); got != want {
			t.Errorf("BenchSet(%d) = %d, not %d", room, got, want)
		}
	}
	if got := impl.ShowHall(h); got != benchHall {
		t.Errorf("ShowHall = %q", got)
	}
	if got, is := impl.ReadHall(benchHall); !is || !sameHall(got, h) {
		t.Errorf("ReadHall = %v, %v", got, is)
	}
}

// Every number of rooms from none to four, every number of benches of each from none to five.
func TestEveryHall(t *testing.T) {
	for _, h := range allHalls() {
		checkHall(t, h)
	}
}

// Promise 4: no bench is in two rooms' sets, and none is in no room's.
func TestEachBenchStandsInOneRoom(t *testing.T) {
	for _, h := range rightHalls(t) {
		benches := impl.BenchesIn(h)
		for bench := range int64(8) {
			in := []int64{}
			for room := range h.Rooms {
				if impl.InSet(impl.BenchSet(h, int64(room)), bench) {
					in = append(in, int64(room))
				}
			}
			if bench < benches && (len(in) != 1 || in[0] != impl.RoomOf(h, bench)) {
				t.Fatalf("%v: bench %d is in %v, its room is %d", h, bench, in, impl.RoomOf(h, bench))
			}
			if bench >= benches && len(in) != 0 {
				t.Fatalf("%v: bench %d is in %v", h, bench, in)
			}
		}
	}
}

// Promise 4: each room has as many benches in its set as it tells, and rooms come one behind the other.
func TestRoomsAreNumberedOneByOne(t *testing.T) {
	for _, h := range rightHalls(t) {
		next := int64(0)
		for room, r := range h.Rooms {
			members := impl.Members(impl.BenchSet(h, int64(room)))
			if int64(len(members)) != r.Benches {
				t.Fatalf("%v: room %d has %v", h, room, members)
			}
			for _, bench := range members {
				if bench != next {
					t.Fatalf("%v: room %d has %v", h, room, members)
				}
				next++
			}
		}
		if next != impl.BenchesIn(h) {
			t.Fatalf("%v: %d benches, not %d", h, next, impl.BenchesIn(h))
		}
	}
}

// Promise 4: ReadHall of ShowHall is the hall.
func TestReadHallOfShowHallIsTheHall(t *testing.T) {
	for _, h := range rightHalls(t) {
		got, is := impl.ReadHall(impl.ShowHall(h))
		if !is || !sameHall(got, h) {
			t.Fatalf("ReadHall of ShowHall of %v = %v, %v", h, got, is)
		}
	}
	for n := int64(1); n <= 1024; n++ {
		h := hallWith(roomWith(1+n%4, impl.Pace{Force: n, Coal: 1025 - n}), roomWith(1, impl.Pace{Force: 1025 - n, Coal: n}))
		got, is := impl.ReadHall(impl.ShowHall(h))
		if !is || !sameHall(got, h) {
			t.Fatalf("ReadHall of ShowHall of %v = %v, %v", h, got, is)
		}
	}
}

func TestRoomCases(t *testing.T) {
	one := impl.Pace{Force: 1, Coal: 1}
	two := impl.Pace{Force: 2, Coal: 2}
	three := impl.Pace{Force: 3, Coal: 3}
	four := impl.Pace{Force: 4, Coal: 4}
	five := impl.Pace{Force: 5, Coal: 5}
	cases := []struct {
		r    impl.Room
		want bool
	}{
		{impl.Room{}, false},
		{roomWith(1, one), true},
		{roomWith(4, one), true},
		{roomWith(0, one), false},
		{roomWith(5, one), false},
		{roomWith(-1, one), false},
		{roomWith(1), false},
		{impl.Room{Benches: 1, Paces: []impl.Pace{}}, false},
		{roomWith(1, one, two), true},
		{roomWith(1, one, two, three), true},
		{roomWith(1, one, two, three, four), true},
		{roomWith(1, one, two, three, four, five), false},
		{roomWith(1, impl.Pace{Force: 1024, Coal: 1024}), true},
		{roomWith(1, impl.Pace{Force: 1024, Coal: 1}), true},
		{roomWith(1, impl.Pace{Force: 1, Coal: 1024}), true},
		{roomWith(1, impl.Pace{Force: 0, Coal: 1}), false},
		{roomWith(1, impl.Pace{Force: 1, Coal: 0}), false},
		{roomWith(1, impl.Pace{Force: 1025, Coal: 1}), false},
		{roomWith(1, impl.Pace{Force: 1, Coal: 1025}), false},
		{roomWith(1, one, impl.Pace{Force: 1025, Coal: 2}), false},
		{roomWith(1, one, impl.Pace{Force: 2, Coal: 1025}), false},
		{roomWith(1, impl.Pace{Force: -1, Coal: -1}, one), false},
		{roomWith(1, impl.Pace{}, one), false},
		{roomWith(1, one, one), false},
		{roomWith(1, one, impl.Pace{Force: 1, Coal: 2}), false},
		{roomWith(1, one, impl.Pace{Force: 2, Coal: 1}), false},
		{roomWith(1, two, one), false},
		{roomWith(1, two, impl.Pace{Force: 1, Coal: 3}), false},
		{roomWith(1, two, impl.Pace{Force: 3, Coal: 1}), false},
		{roomWith(1, one, three, two), false},
		{roomWith(1, one, two, three, three), false},
		{roomWith(1, one, two, three, impl.Pace{Force: 4, Coal: 3}), false},
		{roomWith(1, one, two, three, impl.Pace{Force: 3, Coal: 4}), false},
	}
	for _, k := range cases {
		if got := impl.RoomOk(k.r); got != k.want {
			t.Errorf("RoomOk(%v) = %v", k.r, got)
		}
		if got := impl.HallOk(hallWith(k.r)); got != k.want {
			t.Errorf("HallOk of %v alone = %v", k.r, got)
		}
	}
}

// Lists of up to five Paces out of a few, right ones and wrong ones, in every order.
func TestEveryListOfFewPaces(t *testing.T) {
	few := []impl.Pace{{Force: 1, Coal: 1}, {Force: 2, Coal: 2}, {Force: 2, Coal: 3}, {Force: 3, Coal: 2}, {Force: 1023, Coal: 1023}, {Force: 1024, Coal: 1024}, {Force: 0, Coal: 0}}
	lists := [][]impl.Pace{nil}
	for start := 0; start < len(lists); start++ {
		r := roomWith(1, lists[start]...)
		if got := impl.RoomOk(r); got != wantRoomOk(r) {
			t.Fatalf("RoomOk(%v) = %v", r, got)
		}
		if len(lists[start]) < 5 {
			for _, p := range few {
				lists = append(lists, append(slices.Clone(lists[start]), p))
			}
		}
	}
}

// Two Paces, one behind the other: alike, falling and rising, by one and at the limits.
func TestEveryPairOfPacesNearTheLimits(t *testing.T) {
	near := []int64{-1, 0, 1, 2, 3, 511, 512, 513, 1022, 1023, 1024, 1025}
	for _, a := range near {
		for _, b := range near {
			for _, c := range near {
				for _, d := range near {
					r := roomWith(1, impl.Pace{Force: a, Coal: b}, impl.Pace{Force: c, Coal: d})
					if got := impl.RoomOk(r); got != wantRoomOk(r) {
						t.Fatalf("RoomOk(%v) = %v", r, got)
					}
				}
			}
		}
	}
}

func TestEveryForceAndCoal(t *testing.T) {
	for n := int64(-2); n <= 1027; n++ {
		for _, r := range []impl.Room{roomWith(1, impl.Pace{Force: n, Coal: 1}), roomWith(1, impl.Pace{Force: 1, Coal: n})} {
			if got := impl.RoomOk(r); got != isFrom(n, 1, 1024) {
				t.Fatalf("RoomOk(%v) = %v", r, got)
			}
			checkRead(t, fmt.Sprintf("1 %d:%d", r.Paces[0].Force, r.Paces[0].Coal))
		}
	}
}

// The least and the greatest int64, and numbers between, in the place of each number of a hall, and in several at once:
// a sum of benches that overflows must not look like few.
func TestWrongNumbersInEveryPlace(t *testing.T) {
	for _, n := range wrongNumbers {
		for room := range 2 {
			h, _ := wantRead(benchHall)
			h.Rooms[room].Benches = n
			checkHall(t, h)
			for pace := range 2 {
				h, _ := wantRead(benchHall)
				h.Rooms[room].Paces[pace].Force = n
				checkHall(t, h)
				h, _ = wantRead(benchHall)
				h.Rooms[room].Paces[pace].Coal = n
				checkHall(t, h)
			}
		}
		for _, m := range wrongNumbers {
			h, _ := wantRead("1 1:1/1 1:1/1 1:1")
			h.Rooms[0].Benches, h.Rooms[1].Benches, h.Rooms[2].Benches = n, m, 3-n-m
			checkHall(t, h)
			checkHall(t, hallWith(roomWith(1, impl.Pace{Force: n, Coal: m})))
		}
	}
}

func TestLongListsAreRefused(t *testing.T) {
	right := roomWith(1, impl.Pace{Force: 1, Coal: 1})
	checkHall(t, hallWith(slices.Repeat([]impl.Room{right}, 4)...))
	checkHall(t, hallWith(slices.Repeat([]impl.Room{right}, 1000)...))
	checkHall(t, hallWith(slices.Repeat([]impl.Room{{}}, 3)...))
	long := roomWith(1)
	for n := range int64(1024) {
		long.Paces = append(long.Paces, impl.Pace{Force: n + 1, Coal: n + 1})
	}
	checkHall(t, hallWith(long))
	checkHall(t, hallWith(right, long))
}

func TestReadHallCases(t *testing.T) {
	right := []string{
		"1 1:1", "4 1:1", "1 1024:1024", "1 1:1024", "1 1024:1",
		"1 1:1 2:2 3:3 4:4", "4 1:1/4 1:1", "4 1:1/3 1:1/1 1:1", "1 1:1/1 1:1/1 1:1", "2 1:1/2 1:1/4 1:1", benchHall,
	}
	for _, s := range right {
		if _, is := impl.ReadHall(s); !is {
			t.Errorf("ReadHall(%q) is refused", s)
		}
		checkRead(t, s)
	}
	wrong := []string{
		"", " ", "/", ":", "1", "1 ", " 1", "1/", "/1 1:1", "1 1:1/", "1 1:1//1 1:1", "//", "1 1:1 ", " 1 1:1", "1  1:1", "1 1:1  2:2",
		"1 1", "1 1:", "1 :1", "1 :", "1 1:1:", "1 :1:1", "1 1::1", "1 1:1:1", "1:1", "1:1 1:1", "1 1: 1", "1 1 :1", "1 1:1 /1 1:1", "1 1:1/ 1 1:1",
		"0 1:1", "5 1:1", "-1 1:1", "1 0:1", "1 1:0", "1 1025:1", "1 1:1025", "1 -1:1", "1 1:-1", "1 2:2 1:3", "1 1:2 2:1", "1 1:1 1:2", "1 1:1 2:1", "1 1:1 1:1",
		"1 1:1 2:2 3:3 4:4 5:5", "4 1:1/4 1:1/1 1:1", "1 1:1/1 1:1/1 1:1/1 1:1", "3 1:1/3 1:1/3 1:1", "1/1 1:1", "1 1:1/1",
		"01 1:1", "1 01:1", "1 1:01", "00 1:1", "-0 1:1", "1 -0:1", "1 1:-0", "+1 1:1", "1 +1:1", "1 1:+1", "--1 1:1", "1- 1:1", "-01 1:1",
		"1 1000000000:1", "1 1:1000000000", "1000000000 1:1", "1 0000000001:1", "1 9999999999:1", "1 999999999:1", "-999999999 1:1", "-1000000000 1:1",
		"1 4294967297:1", "4294967297 1:1", "1 18446744073709551617:1", "18446744073709551617 1:1", "1 9223372036854775807:1", "1 -9223372036854775808:1", "1 9223372036854775808:1",
		"1 1:1\n", "\n1 1:1", "1\n1:1", "1\t1:1", "1 1:1\x00", "1\x001:1", "1 1;1", "1 1:1\\1 1:1", "1 1.0:1", "1 1e1:1", "1 1_0:1", "1 0x1:1", "0x1 1:1", "a 1:1", "1 a:1", "1 1:a",
		"1 \xff:1", "\xff", "1 １:1", "１ 1:1", "1\u00a01:1", "1 ١:1", "hall 1 1:1", "1 1:1/\xc3",
	}
	for _, s := range wrong {
		if h, is := impl.ReadHall(s); is || len(h.Rooms) != 0 {
			t.Errorf("ReadHall(%q) = %v, %v", s, h, is)
		}
		checkRead(t, s)
	}
}

// One byte too many, one missing and one in another's place, each byte there is at each place of right texts.
func TestReadHallOfTextsThatAreNearlyRight(t *testing.T) {
	bytesOf := []byte("0123456789 :/-+.a\n\t\x00\x7f\x80\xff")
	for _, s := range []string{"1 1:1", benchHall, "4 1:1/3 1:2/1 1024:1024", "1 1:1 2:2 3:3 4:4"} {
		for i := range len(s) + 1 {
			checkRead(t, s[:i])
			checkRead(t, s[i:])
			for _, c := range bytesOf {
				checkRead(t, s[:i]+string([]byte{c})+s[i:])
				if i < len(s) {
					checkRead(t, s[:i]+string([]byte{c})+s[i+1:])
				}
			}
			if i < len(s) {
				checkRead(t, s[:i]+s[i+1:])
			}
		}
	}
	for c := range 256 {
		checkRead(t, string([]byte{byte(c)}))
		checkRead(t, "1 1:1"+string([]byte{byte(c)}))
		checkRead(t, "1 1"+string([]byte{byte(c)})+"1")
		checkRead(t, "1"+string([]byte{byte(c)})+"1:1")
	}
}

func TestReadHallOfLongTexts(t *testing.T) {
	for _, s := range []string{"1", "1 1:1/", "/", " ", ":", "1 1:1 ", "1 ", "0", "-", "1:"} {
		if _, is := impl.ReadHall(strings.Repeat(s, 100000)); is {
			t.Errorf("%q again and again is read", s)
		}
	}
}

// A wrong hall has no text, so none is read as one.
func TestWrongHallsHaveNoText(t *testing.T) {
	for _, h := range allHalls() {
		if wantHallOk(h) {
			continue
		}
		if got := impl.ShowHall(h); got != "" {
			t.Fatalf("ShowHall(%v) = %q", h, got)
		}
	}
}

// Whatever is written into one list of an answer, or behind it, is not seen in another list or another answer.
func TestReadHallIsNewMemory(t *testing.T) {
	for _, right := range rightHalls(t) {
		s := impl.ShowHall(right)
		one, _ := impl.ReadHall(s)
		other, _ := impl.ReadHall(s)
		_ = append(one.Rooms, roomWith(9))
		for i := range one.Rooms {
			_ = append(one.Rooms[i].Paces, impl.Pace{Force: -9, Coal: -9})
			if !sameHall(one, right) {
				t.Fatalf("ReadHall(%q): lists of one answer share memory: %v", s, one)
			}
		}
		for i := range one.Rooms {
			one.Rooms[i].Benches = -9
			for j := range one.Rooms[i].Paces {
				one.Rooms[i].Paces[j] = impl.Pace{Force: -9, Coal: -9}
			}
			if rest := hallWith(one.Rooms[i+1:]...); !sameHall(rest, hallWith(right.Rooms[i+1:]...)) {
				t.Fatalf("ReadHall(%q): rooms of one answer share memory: %v", s, one)
			}
		}
		again, _ := impl.ReadHall(s)
		if !sameHall(other, right) || !sameHall(again, right) {
			t.Fatalf("ReadHall(%q): answers share memory: %v, %v", s, other, again)
		}
	}
}

// withRoomBehind gives each list of a hall spare room that is written on.
func withRoomBehind(h impl.Hall) (impl.Hall, impl.Hall) {
	whole := copied(h)
	for i, r := range whole.Rooms {
		whole.Rooms[i].Paces = append(slices.Clip(r.Paces), impl.Pace{Force: -7, Coal: -7}, impl.Pace{Force: -8, Coal: -8})
	}
	whole.Rooms = append(slices.Clip(whole.Rooms), roomWith(-7), roomWith(-8))
	short := impl.Hall{Rooms: slices.Clone(whole.Rooms)[:len(h.Rooms)]}
	for i, r := range h.Rooms {
		short.Rooms[i].Paces = whole.Rooms[i].Paces[:len(r.Paces)]
	}
	return short, whole
}

// Arguments stay as they are, and so does the spare room behind their lists.
func TestHallsStay(t *testing.T) {
	for _, h := range allHalls() {
		short, whole := withRoomBehind(h)
		before := copied(whole)
		checkHall(t, short)
		for _, r := range short.Rooms {
			impl.RoomOk(r)
		}
		if !sameHall(short, h) || !sameHall(whole, before) {
			t.Fatalf("%v became %v", before, whole)
		}
		behind := short.Rooms[:len(h.Rooms)+2]
		if !sameHall(hallWith(behind[len(h.Rooms):]...), hallWith(roomWith(-7), roomWith(-8))) {
			t.Fatalf("behind %v there is %v", h, behind)
		}
	}
}
