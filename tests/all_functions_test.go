package tests

import (
	"fmt"
	"go/ast"
	"go/parser"
	"go/token"
	"maps"
	"math"
	"path/filepath"
	"reflect"
	"slices"
	"strings"
	"sync"
	"testing"

	"loop.example/g00553/impl"
)

// allFunctions holds every function of the document by its name.
var allFunctions = map[string]any{
	"MulDiv": impl.MulDiv, "Clamped": impl.Clamped, "Faded": impl.Faded, "FadedMany": impl.FadedMany,
	"SetOk": impl.SetOk, "InSet": impl.InSet, "Members": impl.Members, "FirstOf": impl.FirstOf,
	"WeightOf": impl.WeightOf, "Share": impl.Share, "RankFor": impl.RankFor,
	"RoomOk": impl.RoomOk, "HallOk": impl.HallOk, "BenchesIn": impl.BenchesIn, "RoomOf": impl.RoomOf, "ForceOf": impl.ForceOf, "BenchSet": impl.BenchSet, "ReadHall": impl.ReadHall, "ShowHall": impl.ShowHall,
	"PaceFor": impl.PaceFor, "CoalFor": impl.CoalFor, "LeastCoal": impl.LeastCoal,
	"EntryLess": impl.EntryLess, "QueueOk": impl.QueueOk, "Queued": impl.Queued, "Unqueued": impl.Unqueued, "FirstIn": impl.FirstIn,
	"FitsIn": impl.FitsIn, "TooMuch": impl.TooMuch, "SpareOf": impl.SpareOf,
	"GuildsOk": impl.GuildsOk, "Bounds": impl.Bounds, "Within": impl.Within,
	"SmithOk": impl.SmithOk, "Charged": impl.Charged, "Reranked": impl.Reranked,
	"InBand": impl.InBand, "Placed": impl.Placed, "Moved": impl.Moved, "Marked": impl.Marked,
	"SmithyOk": impl.SmithyOk, "NewSmithy": impl.NewSmithy, "At": impl.At, "WantOf": impl.WantOf, "UsedAt": impl.UsedAt,
	"Turned": impl.Turned, "IsIdle": impl.IsIdle, "Working": impl.Working,
	"NeedIn": impl.NeedIn, "CoalIn": impl.CoalIn, "CoalOf": impl.CoalOf, "CoalWith": impl.CoalWith,
	"MayWork": impl.MayWork, "Fitting": impl.Fitting, "Crowded": impl.Crowded, "Chosen": impl.Chosen,
	"Come": impl.Come, "Rest": impl.Rest, "Wake": impl.Wake, "Leave": impl.Leave,
	"Ranked": impl.Ranked, "Allowed": impl.Allowed, "Limited": impl.Limited, "Closed": impl.Closed, "Opened": impl.Opened,
	"Ticked": impl.Ticked, "Wanted": impl.Wanted, "Granted": impl.Granted,
	"Misfit": impl.Misfit, "Waiting": impl.Waiting, "Levelled": impl.Levelled,
	"Happen": impl.Happen, "Play": impl.Play, "ShowAct": impl.ShowAct, "ReadAct": impl.ReadAct, "WorkOf": impl.WorkOf,
	"Bench": impl.Bench,
}

// No function of the program is missing above, so that none is left out of what follows.
func TestAllFunctionsAreTold(t *testing.T) {
	names, _ := filepath.Glob("../impl/*.go")
	found := []string{}
	for _, name := range names {
		file, err := parser.ParseFile(token.NewFileSet(), name, nil, 0)
		if err != nil {
			t.Fatal(err)
		}
		for _, d := range file.Decls {
			if f, ok := d.(*ast.FuncDecl); ok && f.Recv == nil && f.Name.IsExported() {
				found = append(found, f.Name.Name)
			}
		}
	}
	slices.Sort(found)
	if told := slices.Sorted(maps.Keys(allFunctions)); !slices.Equal(found, told) {
		t.Fatalf("%v, not %v", found, told)
	}
}

// drawnNumber is one of a hall, of a smith or of a bench, near a limit of some chapter, extreme, or any at all.
func drawnNumber(l *lots) int64 {
	switch l.below(8) {
	case 0:
		return oneOf(l, extremes...)
	case 1:
		return oneOf(l, wrongInAnyField...)
	case 2:
		return oneOf[int64](l, leastHad, mostHad, mostMark, -mostMark, mostNow, mostWork, million, credit, lead, mostSmiths, 100, 1000, 100000, billion) + l.below(3) - 1
	case 3:
		return l.below(1<<31)<<33 ^ l.below(1<<31)<<11 ^ l.below(1<<11)
	case 4:
		return l.below(1100)
	}
	return l.below(14) - 2
}

func drawnEntries(l *lots) []impl.Entry {
	list := []impl.Entry{}
	for who := range l.below(8) {
		list = append(list, entry(who*oneOf[int64](l, 0, 1, 5)-l.below(2), who))
	}
	return list
}

func drawnActs(l *lots, m impl.Smithy) []impl.Act {
	list := []impl.Act{}
	for range l.below(9) {
		list = append(list, drawnAct(l, m, busyKinds()...))
	}
	return list
}

func drawnText(l *lots) string {
	m := middleSmithy()
	text := ""
	switch l.below(6) {
	case 0:
		text = oneOf(l, fewHalls...)
	case 1:
		text = wantShowAct(drawnAct(l, m, allKinds()...))
	case 2:
		text = ended(drawnLines(l, int(l.below(20)), codes{})...)
	case 3:
		text = strings.Repeat(oneOf(l, "", "\n", "x", "now\n", "1 1:1/", "tick 1", "\xff\x00", " "), int(oneOf(l, 0, 1, 7, l.below(200), 7999, 8001)))
	case 4:
		bytes := make([]byte, l.below(60))
		for i := range bytes {
			bytes[i] = byte(l.below(256))
		}
		text = string(bytes)
	case 5:
		text = drawnLine(l, m)
	}
	for range max(l.below(5)-2, 0) {
		text = spoiledText(l, text)
	}
	return text
}

func drawnWhole(l *lots) impl.Smithy {
	m := drawnSmithy(l, mustHall(oneOf(l, fewHalls...)), int(l.below(mostSmiths+1)))
	switch l.below(4) {
	case 0:
		return m
	case 1:
		return withTurns(l, m)
	case 2:
		return oneOf(l, rightSmithies()...)
	}
	return wantTurned(m)
}

// drawn is an argument of that type, right more often than not; a number is as few as there are benches, smiths or rooms.
func drawn(t *testing.T, l *lots, of reflect.Type) reflect.Value {
	t.Helper()
	switch reflect.Zero(of).Interface().(type) {
	case int64:
		return reflect.ValueOf(l.below(int(oneOf[int64](l, 2, 4, 12))))
	case string:
		return reflect.ValueOf(drawnText(l))
	case impl.Entry:
		return reflect.ValueOf(entry(drawnNumber(l), drawnNumber(l)))
	case []impl.Entry:
		return reflect.ValueOf(drawnEntries(l))
	case []impl.Guild:
		return reflect.ValueOf(someGuilds()[:l.below(7)])
	case impl.Room:
		return reflect.ValueOf(oneOf(l, mustHall(oneOf(l, fewHalls...)).Rooms...))
	case impl.Hall:
		return reflect.ValueOf(mustHall(oneOf(l, fewHalls...)))
	case impl.Smith:
		return reflect.ValueOf(oneOf(l, rightSmiths()...))
	case impl.Smithy:
		return reflect.ValueOf(drawnWhole(l))
	case impl.Act:
		return reflect.ValueOf(drawnAct(l, middleSmithy(), busyKinds()...))
	case []impl.Act:
		return reflect.ValueOf(drawnActs(l, middleSmithy()))
	}
	t.Fatalf("nothing is drawn of %s", of)
	return reflect.Value{}
}

// leavesOf are all numbers, flags and lists of what v points to.
func leavesOf(v reflect.Value) []reflect.Value {
	list := []reflect.Value{}
	switch v.Kind() {
	case reflect.Struct:
		for i := range v.NumField() {
			list = append(list, leavesOf(v.Field(i))...)
		}
	case reflect.Slice:
		list = append(list, v)
		for i := range v.Len() {
			list = append(list, leavesOf(v.Index(i))...)
		}
	default:
		list = append(list, v)
	}
	return list
}

// spoil changes one number, flag or list of it; a text is left as it was drawn.
func spoil(l *lots, v reflect.Value) {
	leaves := leavesOf(v)
	switch leaf := oneOf(l, leaves...); leaf.Kind() {
	case reflect.Int64:
		leaf.SetInt(drawnNumber(l))
	case reflect.Bool:
		leaf.SetBool(!leaf.Bool())
	case reflect.Slice:
		spoilList(l, leaf)
	}
}

func spoilList(l *lots, list reflect.Value) {
	count := list.Len()
	switch l.below(6) {
	case 0:
		list.SetZero()
	case 1:
		list.Set(reflect.MakeSlice(list.Type(), 0, 3))
	case 2:
		list.Set(reflect.MakeSlice(list.Type(), count+int(l.below(3)), count+5))
	case 3:
		if count > 0 {
			list.Set(list.Slice(0, int(l.below(count))))
		}
	default:
		if count > 0 {
			list.Set(reflect.Append(list.Slice3(0, count, count), list.Index(int(l.below(count)))))
		}
	}
}

// lentValue is a copy of v with all of its lists, each with the spare room that is told of its element's zero value and of
// its first one, or none where spare is not asked for.
func lentValue(v reflect.Value, spare bool) reflect.Value {
	switch v.Kind() {
	case reflect.Struct:
		c := reflect.New(v.Type()).Elem()
		for i := range v.NumField() {
			c.Field(i).Set(lentValue(v.Field(i), spare))
		}
		return c
	case reflect.Slice:
		if v.IsNil() {
			return v
		}
		c := reflect.MakeSlice(v.Type(), 0, v.Len()+3)
		for i := range v.Len() {
			c = reflect.Append(c, lentValue(v.Index(i), spare))
		}
		if !spare {
			return c.Slice3(0, v.Len(), v.Len())
		}
		if v.Len() > 0 {
			reflect.Append(c, lentValue(v.Index(0), false), reflect.Zero(v.Type().Elem()), lentValue(v.Index(v.Len()-1), false))
		}
		return c
	}
	return v
}

// brim is a copy of v with all of its lists, each as long as its spare room goes.
func brim(v reflect.Value) any {
	switch v.Kind() {
	case reflect.Struct:
		list := []any{}
		for i := range v.NumField() {
			list = append(list, brim(v.Field(i)))
		}
		return list
	case reflect.Slice:
		list := []any{v.Len()}
		for i := range v.Cap() {
			list = append(list, brim(v.Slice(0, v.Cap()).Index(i)))
		}
		return list
	}
	return v.Interface()
}

func brims(values []reflect.Value) []any {
	list := []any{}
	for _, v := range values {
		list = append(list, brim(v))
	}
	return list
}

// smear writes into all the memory that v has, its spare room with it.
func smear(v reflect.Value) {
	switch v.Kind() {
	case reflect.Struct:
		for i := range v.NumField() {
			smear(v.Field(i))
		}
	case reflect.Slice:
		whole := v.Slice(0, v.Cap())
		for i := range whole.Len() {
			smear(whole.Index(i))
			if e := whole.Index(i); e.Kind() == reflect.Int64 {
				e.SetInt(-79)
			}
			if e := whole.Index(i); e.Kind() == reflect.Struct {
				for _, leaf := range leavesOf(e) {
					if leaf.Kind() == reflect.Int64 {
						leaf.SetInt(-97)
					}
				}
			}
		}
	}
}

func told(values []reflect.Value) []any {
	list := []any{}
	for _, v := range values {
		list = append(list, v.Interface())
	}
	return list
}

// called fails where the function panics.
func called(t *testing.T, name string, args []reflect.Value) []reflect.Value {
	t.Helper()
	defer func() {
		if why := recover(); why != nil {
			t.Fatalf("%s(%+v) panics: %v", name, told(args), why)
		}
	}()
	return reflect.ValueOf(allFunctions[name]).Call(args)
}

// checkCall is the promise by its words, of one function at such arguments; it answers what is answered.
func checkCall(t *testing.T, name string, drawn []reflect.Value) string {
	t.Helper()
	args := []reflect.Value{}
	for _, v := range drawn {
		args = append(args, lentValue(v, true))
	}
	before := brims(args)
	stays := func() {
		t.Helper()
		if after := brims(args); !reflect.DeepEqual(after, before) {
			t.Fatalf("%s: what is given was %+v and became %+v", name, before, after)
		}
	}
	first, second := called(t, name, args), called(t, name, args)
	stays()
	checkNoneShared(t, slices.Concat(told(args), told(first), told(second))...)
	answer, want := fmt.Sprintf("%+v", told(first)), brims(second)
	for _, v := range first {
		smear(v)
	}
	stays()
	if third := told(called(t, name, args)); !reflect.DeepEqual(brims(second), want) || !reflect.DeepEqual(third, told(second)) || fmt.Sprintf("%+v", third) != answer {
		t.Fatalf("%s(%+v) is answered by %s, %+v and %+v", name, told(args), answer, told(second), third)
	}
	stays()
	return answer
}

// eachFunction is given the types of its arguments.
func eachFunction(yield func(name string, types []reflect.Type) bool) {
	for _, name := range slices.Sorted(maps.Keys(allFunctions)) {
		f, types := reflect.TypeOf(allFunctions[name]), []reflect.Type{}
		for i := range f.NumIn() {
			types = append(types, f.In(i))
		}
		if !yield(name, types) {
			return
		}
	}
}

// variable is v where it can be written into.
func variable(v reflect.Value) reflect.Value {
	p := reflect.New(v.Type()).Elem()
	p.Set(lentValue(v, false))
	return p
}

// Promise 21, at drawn arguments: right ones, and, every other time, ones with up to three numbers, flags or lists that are
// not.
func TestEveryFunctionAnswersAtEveryArgument(t *testing.T) {
	t.Parallel()
	for name, types := range eachFunction {
		l, answers := lots(21+len(name)), map[string]int{}
		for i := range 400 {
			args := []reflect.Value{}
			for _, of := range types {
				v := variable(drawn(t, &l, of))
				for range max(l.below(7)-3, 0) * int64(i%2) {
					spoil(&l, v)
				}
				args = append(args, v)
			}
			answers[checkCall(t, name, args)]++
		}
		if most := slices.Max(slices.Collect(maps.Values(answers))); len(answers) < 2 || most > 395 {
			t.Errorf("%s is always answered by the same: %v", name, answers)
		}
	}
}

// allOver has that number in all its numbers, and that flag in all its flags.
func allOver(v reflect.Value, n int64, flag bool) reflect.Value {
	p := variable(v)
	for _, leaf := range leavesOf(p) {
		switch leaf.Kind() {
		case reflect.Int64:
			leaf.SetInt(n)
		case reflect.Bool:
			leaf.SetBool(flag)
		}
	}
	return p
}

var farNumbers = []int64{
	math.MinInt64, math.MinInt64 + 1, math.MinInt64 / 2, math.MinInt32, -billion, -1024, -1, 0, 1, 7, 8, 255, 256, 1024, billion, math.MaxInt32, 1 << 53, math.MaxInt64 / 2, math.MaxInt64 - 1, math.MaxInt64,
}

// The least and the greatest int64 and others, in all numbers there are, in each argument alone, and in each number alone.
func TestEveryFunctionAnswersAtFarNumbers(t *testing.T) {
	t.Parallel()
	for name, types := range eachFunction {
		l, right := lots(2121), []reflect.Value{}
		for _, of := range types {
			right = append(right, drawn(t, &l, of))
		}
		for _, n := range farNumbers {
			all := []reflect.Value{}
			for i, v := range right {
				all = append(all, allOver(v, n, n&1 == 0))
				alone := slices.Clone(right)
				alone[i] = all[i]
				checkCall(t, name, alone)
			}
			checkCall(t, name, all)
		}
		for i, v := range right {
			for j := range leavesOf(v) {
				for _, n := range []int64{math.MinInt64, math.MaxInt64} {
					p := variable(v)
					if leaf := leavesOf(p)[j]; leaf.Kind() == reflect.Int64 {
						leaf.SetInt(n)
					}
					alone := slices.Clone(right)
					alone[i] = p
					checkCall(t, name, alone)
				}
			}
		}
	}
}

// Every three of the far numbers, where a function is given numbers alone.
func TestEveryFunctionOfNumbersAnswersAtAllOfThem(t *testing.T) {
	t.Parallel()
	for name, types := range eachFunction {
		if slices.ContainsFunc(types, func(of reflect.Type) bool { return of.Kind() != reflect.Int64 }) {
			continue
		}
		args := make([]reflect.Value, len(types))
		var fill func(i int)
		fill = func(i int) {
			if i == len(args) {
				checkCall(t, name, args)
				return
			}
			for _, n := range farNumbers {
				args[i] = reflect.ValueOf(n)
				fill(i + 1)
			}
		}
		fill(0)
	}
}

// Zero values, and nil and empty lists that stand for the same value, as each list there is and as all of them.
func TestEveryFunctionAnswersAtEmptyAndNilLists(t *testing.T) {
	t.Parallel()
	for name, types := range eachFunction {
		l, zero, right := lots(212), []reflect.Value{}, []reflect.Value{}
		for _, of := range types {
			zero, right = append(zero, reflect.Zero(of)), append(right, drawn(t, &l, of))
		}
		checkCall(t, name, zero)
		without := func(dropped func(list reflect.Value) reflect.Value, at int) []reflect.Value {
			args, lists := []reflect.Value{}, 0
			for _, v := range right {
				p := variable(v)
				for _, leaf := range leavesOf(p) {
					if leaf.Kind() == reflect.Slice {
						if lists++; at < 0 || at == lists {
							leaf.Set(dropped(leaf))
						}
					}
				}
				args = append(args, p)
			}
			return args
		}
		for at := -1; at < 30; at++ {
			asNil := checkCall(t, name, without(func(list reflect.Value) reflect.Value { return reflect.Zero(list.Type()) }, at))
			asEmpty := checkCall(t, name, without(func(list reflect.Value) reflect.Value { return reflect.MakeSlice(list.Type(), 0, 2) }, at))
			if asNil != asEmpty {
				t.Errorf("%s is answered by %s without a list, and by %s with an empty one", name, asNil, asEmpty)
			}
		}
	}
}

// Lists that are longer than any that is right, of elements that are right.
func TestEveryFunctionAnswersAtLongLists(t *testing.T) {
	t.Parallel()
	for name, types := range eachFunction {
		l := lots(2100)
		for _, times := range []int{2, 13, 101, 400} {
			args := []reflect.Value{}
			for _, of := range types {
				p := variable(drawn(t, &l, of))
				for _, leaf := range leavesOf(p) {
					if leaf.Kind() != reflect.Slice || leaf.Len() == 0 || times > 100 && leaf.Type() == reflect.TypeOf([]impl.Pace{}) {
						continue
					}
					long := reflect.MakeSlice(leaf.Type(), 0, 0)
					for range times {
						long = reflect.AppendSlice(long, leaf)
					}
					leaf.Set(long)
				}
				args = append(args, p)
			}
			checkCall(t, name, args)
		}
	}
}

// Texts of any bytes, and ones as long as they may be and longer.
func TestEveryFunctionOfTextsAnswersAtAllOfThem(t *testing.T) {
	t.Parallel()
	for name, types := range eachFunction {
		if len(types) != 1 || types[0].Kind() != reflect.String {
			continue
		}
		ask := func(text string) { checkCall(t, name, []reflect.Value{reflect.ValueOf(text)}) }
		for c := range 256 {
			one := string([]byte{byte(c)})
			for _, text := range []string{one, one + one, one + "1", "1" + one, "now" + one, "come 0" + one + "7", "1 1" + one + "1", strings.Repeat(one, 8000), strings.Repeat(one, 8001), strings.Repeat(one+"\n", 120)} {
				ask(text)
			}
			for d := range 256 {
				ask(string([]byte{byte(c), byte(d)}))
			}
		}
		l := lots(2122)
		for range 3000 {
			ask(drawnText(&l))
		}
	}
}

// Several who ask at once, of the very same memory, are answered as one is.
func TestEveryFunctionAnswersManyAtOnce(t *testing.T) {
	t.Parallel()
	for name, types := range eachFunction {
		l := lots(2123)
		for range 10 {
			args := []reflect.Value{}
			for _, of := range types {
				args = append(args, lentValue(drawn(t, &l, of), true))
			}
			want, before := told(called(t, name, args)), brims(args)
			var all sync.WaitGroup
			wrong := make([]bool, 6)
			for i := range wrong {
				all.Go(func() {
					wrong[i] = !reflect.DeepEqual(told(reflect.ValueOf(allFunctions[name]).Call(args)), want)
				})
			}
			all.Wait()
			if slices.Contains(wrong, true) || !reflect.DeepEqual(brims(args), before) {
				t.Fatalf("asked at once, %s(%+v) is not %+v", name, told(args), want)
			}
		}
	}
}
