package tests

import (
	"math"
	"math/rand"
	"reflect"
	"slices"
	"sort"
	"strconv"
	"strings"
	"testing"

	"loop.example/g00463/impl"
)

// reading is all that is read of one object under one key.
type reading struct {
	count int
	set   []string
	vals  []int
	keys  []string
	dots  []impl.Dot
	row   []int
}

// readingOf asks, besides, that nothing is written into the state, and that a write into what was answered comes neither to it nor to what is answered later.
func readingOf(t *testing.T, s impl.State, obj, key string) reading {
	t.Helper()
	s = roomyState(s)
	before := whole(s)
	first, second := readOnce(s, obj, key), readOnce(s, obj, key)
	wantPlaces(t, s, obj, first)
	first.writeOver()
	if !reflect.DeepEqual(whole(s), before) {
		t.Errorf("reading %q wrote into the state: %+v", obj, whole(s))
	}
	if third := readOnce(s, obj, key); !second.same(third) {
		t.Errorf("%q is read as %+v, and as %+v after a write into an answer", obj, second, third)
	}
	return second
}

func readOnce(s impl.State, obj, key string) reading {
	return reading{
		count: impl.CountOf(s, obj),
		set:   impl.SetOf(s, obj),
		vals:  impl.MapOf(s, obj, key),
		keys:  impl.KeysOf(s, obj),
		dots:  impl.RowDots(s, obj),
		row:   impl.RowOf(s, obj),
	}
}

func (r reading) writeOver() {
	for _, list := range [][]string{r.set, r.keys} {
		for i := range list[:cap(list)] {
			list[:cap(list)][i] = "written"
		}
	}
	for _, list := range [][]int{r.vals, r.row} {
		for i := range list[:cap(list)] {
			list[:cap(list)][i] = 77
		}
	}
	for i := range r.dots[:cap(r.dots)] {
		r.dots[:cap(r.dots)][i] = impl.Dot{Rep: 77, Seq: 77}
	}
}

func (r reading) same(other reading) bool {
	return r.count == other.count && slices.Equal(r.set, other.set) && slices.Equal(r.vals, other.vals) &&
		slices.Equal(r.keys, other.keys) && slices.Equal(r.dots, other.dots) && slices.Equal(r.row, other.row)
}

// wantPlaces holds PlaceIn against the dots and the row that were read, at each place of the row and about it.
func wantPlaces(t *testing.T, s impl.State, obj string, r reading) {
	t.Helper()
	var shown []impl.Dot
	for _, d := range r.dots {
		if c := s.Cells[impl.CellAt(s, d)]; !c.Gone {
			shown = append(shown, d)
		}
	}
	if len(shown) != len(r.row) {
		t.Errorf("%q has %d that are not gone, and is read as %v", obj, len(shown), r.row)
	}
	for _, i := range []int{math.MinInt, -len(shown) - 1, -2, -1, len(shown), len(shown) + 1, len(r.dots) + 1, math.MaxInt} {
		if d, ok := impl.PlaceIn(s, obj, i); ok || d != (impl.Dot{}) {
			t.Errorf("PlaceIn(%q, %d) of %d = %v, %v", obj, i, len(shown), d, ok)
		}
	}
	for i, want := range shown {
		if d, ok := impl.PlaceIn(s, obj, i); !ok || d != want {
			t.Errorf("PlaceIn(%q, %d) = %v, %v, not %v", obj, i, d, ok, want)
		}
	}
}

func wantReading(t *testing.T, name string, s impl.State, obj, key string, want reading) {
	t.Helper()
	if got := readingOf(t, s, obj, key); !got.same(want) {
		t.Errorf("%s: %q is read as\n%+v\nnot\n%+v", name, obj, got, want)
	}
}

// plainReading goes by the words of the document, with no helper of the program but StateOk.
func plainReading(s impl.State, obj, key string) reading {
	var r reading
	for _, tally := range s.Tallies {
		if tally.Obj == obj {
			r.count = (r.count + tally.Sum) % 1000000
		}
	}
	sets, maps := map[string]bool{}, map[string]bool{}
	for _, l := range s.Lives {
		switch {
		case l.Obj == obj && l.Map:
			maps[l.Key] = true
		case l.Obj == obj:
			sets[l.Key] = true
		}
		if l.Obj == obj && l.Map && l.Key == key {
			r.vals = append(r.vals, l.Val)
		}
	}
	r.set, r.keys = plainlySorted(sets), plainlySorted(maps)
	sort.Ints(r.vals)
	if !impl.StateOk(s) {
		return r
	}
	for _, c := range plainRow(s.Cells, obj) {
		r.dots = append(r.dots, c.Dot)
		if !c.Gone {
			r.row = append(r.row, c.Val)
		}
	}
	return r
}

func plainlySorted(keys map[string]bool) []string {
	var out []string
	for key := range keys {
		out = append(out, key)
	}
	sort.Strings(out)
	return out
}

// plainRow holds any two cells against each other by their ways from the beginning on: where these part, the later one is first; a way that ends there is ahead.
func plainRow(cells []impl.Cell, obj string) []impl.Cell {
	byDot := map[impl.Dot]impl.Cell{}
	var out []impl.Cell
	for _, c := range cells {
		byDot[c.Dot] = c
		if c.Obj == obj {
			out = append(out, c)
		}
	}
	wayTo := func(c impl.Cell) []impl.Cell {
		way := []impl.Cell{c}
		for c.Ref.Seq > 0 {
			c = byDot[c.Ref]
			way = append(way, c)
		}
		slices.Reverse(way)
		return way
	}
	sort.Slice(out, func(i, j int) bool {
		a, b := wayTo(out[i]), wayTo(out[j])
		for k := range min(len(a), len(b)) {
			if a[k] != b[k] {
				return plainlyLater(a[k], b[k])
			}
		}
		return len(a) < len(b)
	})
	return out
}

func plainlyLater(a, b impl.Cell) bool {
	if a.Time != b.Time {
		return a.Time > b.Time
	}
	if a.Dot.Rep != b.Dot.Rep {
		return a.Dot.Rep > b.Dot.Rep
	}
	return a.Dot.Seq > b.Dot.Seq
}

func TestReadingOfSome(t *testing.T) {
	s := someState()
	dots := func(pairs ...int) []impl.Dot {
		var out []impl.Dot
		for i := 0; i < len(pairs); i += 2 {
			out = append(out, impl.Dot{Rep: pairs[i], Seq: pairs[i+1]})
		}
		return out
	}
	for _, row := range []struct {
		obj, key string
		want     reading
	}{
		{"c", "x", reading{count: 7}},
		{"d", "x", reading{count: 999999}},
		{"m", "x", reading{set: []string{"x"}, vals: []int{3, 4}, keys: []string{"x", "y"}}},
		{"m", "y", reading{set: []string{"x"}, vals: []int{0}, keys: []string{"x", "y"}}},
		{"m", "z", reading{set: []string{"x"}, keys: []string{"x", "y"}}},
		{"s", "abcdefgh", reading{set: []string{"abcdefgh"}}},
		{"r", "", reading{dots: dots(0, 4, 1, 5, 0, 9), row: []int{1, 2, 0}}},
		{"q", "", reading{dots: dots(2, 2, 0, 6), row: []int{5}}},
		{"none", "x", reading{}},
	} {
		wantReading(t, "some", s, row.obj, row.key, row.want)
		wantReading(t, "nothing there", impl.StateNew(), row.obj, row.key, reading{})
	}
}

func tallies(rows ...impl.Tally) impl.State {
	return impl.State{Know: []int{9, 9, 9}, Tallies: rows}
}

func TestCountOf(t *testing.T) {
	tally := func(obj string, rep, sum int) impl.Tally { return impl.Tally{Obj: obj, Rep: rep, Sum: sum} }
	beside := tallies(tally("b", 0, 1), tally("b", 1, 20), tally("b", 2, 300), tally("c", 1, 4000), tally("ca", 0, 50000), tally("ca", 2, 600000), tally("d", 2, 0))
	wantState(t, "counters beside each other", beside, true)
	for _, row := range []struct {
		s    impl.State
		obj  string
		want int
	}{
		{beside, "b", 321}, {beside, "c", 4000}, {beside, "ca", 650000}, {beside, "d", 0},
		{beside, "a", 0}, {beside, "caa", 0}, {beside, "e", 0},
		{tallies(tally("c", 0, 999999)), "c", 999999},
		{tallies(tally("c", 0, 999998), tally("c", 2, 1)), "c", 999999},
		{tallies(tally("c", 0, 333333), tally("c", 1, 333333), tally("c", 2, 333333)), "c", 999999},
		{tallies(tally("c", 0, 999999), tally("c", 1, 1)), "c", 0},
		{tallies(tally("c", 0, 1), tally("c", 2, 999999)), "c", 0},
		{tallies(tally("c", 0, 999999), tally("c", 1, 2)), "c", 1},
		{tallies(tally("c", 0, 400000), tally("c", 1, 400000), tally("c", 2, 400000)), "c", 200000},
		{tallies(tally("c", 0, 999999), tally("c", 1, 999999)), "c", 999998},
		{tallies(tally("c", 0, 999999), tally("c", 1, 999999), tally("c", 2, 999999)), "c", 999997},
		{tallies(tally("c", 0, 999999), tally("c", 1, 999999), tally("c", 2, 2)), "c", 0},
		{tallies(tally("b", 0, 999999), tally("c", 0, 999999), tally("d", 0, 999999)), "c", 999999},
	} {
		wantState(t, "a counter", row.s, true)
		wantReading(t, "a counter", row.s, row.obj, "", reading{count: row.want})
	}
}

// What is read of Tallies that are not right is what stands there, and never beyond MaxVal.
func TestCountOfWrongTallies(t *testing.T) {
	tally := func(obj string, rep, sum int) impl.Tally { return impl.Tally{Obj: obj, Rep: rep, Sum: sum} }
	for _, row := range []struct {
		s    impl.State
		obj  string
		want int
	}{
		{tallies(tally("c", 0, 1000000)), "c", 0},
		{tallies(tally("c", 0, 1000001)), "c", 1},
		{tallies(tally("c", 0, 7999999)), "c", 999999},
		{tallies(tally("c", 0, 5000001), tally("c", 1, 3000002)), "c", 3},
		{tallies(tally("c", 0, math.MaxInt)), "c", 775807},
		{tallies(tally("c", 0, math.MaxInt), tally("c", 1, math.MaxInt), tally("c", 2, math.MaxInt)), "c", 327421},
		{tallies(tally("c", 0, 999999), tally("c", 1, math.MaxInt)), "c", 775806},
		{tallies(tally("c", 0, -1)), "c", 999999},
		{tallies(tally("c", 0, -1), tally("c", 1, 5)), "c", 4},
		{tallies(tally("c", 0, -1000000)), "c", 0},
		{tallies(tally("c", 0, math.MinInt), tally("c", 1, math.MaxInt)), "c", 999999},
		{tallies(tally("c", 1, 2), tally("c", 1, 3)), "c", 5},
		{tallies(tally("c", 2, 2), tally("b", 9, 30), tally("c", -1, 3)), "c", 5},
		{tallies(tally("c", 2, 2), tally("b", 9, 30), tally("c", -1, 3)), "b", 30},
		{impl.State{Tallies: []impl.Tally{tally("c", 0, 6)}}, "c", 6},
		{impl.State{Know: []int{-1}, Tallies: []impl.Tally{tally("c", 0, 6)}}, "c", 6},
	} {
		wantState(t, "wrong", row.s, false)
		if got := impl.CountOf(row.s, row.obj); got != row.want {
			t.Errorf("CountOf(%+v, %q) = %d, not %d", row.s.Tallies, row.obj, got, row.want)
		}
	}
	// The rule for Tallies names no form of their Obj; what stands under a name that is none is read by that name.
	for _, name := range wrongNames() {
		if got := impl.CountOf(tallies(tally(name, 0, 6), tally(name, 2, 8)), name); got != 14 {
			t.Errorf("CountOf(%.20q) = %d", name, got)
		}
	}
	many := tallies()
	for range 300 {
		many.Tallies = append(many.Tallies, tally("c", 1, 10001))
	}
	if got := impl.CountOf(many, "c"); got != 300 {
		t.Errorf("CountOf of 300 Tallies = %d", got)
	}
}

// lives have the dots of three replicas in turn, in order of the dots.
func lives(rows ...impl.Live) impl.State {
	s := impl.State{Know: []int{impl.MaxSeq, impl.MaxSeq, impl.MaxSeq}}
	for i, l := range rows {
		l.Dot = impl.Dot{Rep: i * impl.Reps / len(rows), Seq: i + 1}
		s.Lives = append(s.Lives, l)
	}
	return s
}

func inSet(obj, key string) impl.Live { return impl.Live{Obj: obj, Key: key} }

func inMap(obj, key string, val int) impl.Live {
	return impl.Live{Map: true, Obj: obj, Key: key, Val: val}
}

func TestKeysAscendEachOnce(t *testing.T) {
	for _, row := range []struct {
		name string
		keys []string
		want []string
	}{
		{"none", nil, nil},
		{"one", []string{"k"}, []string{"k"}},
		{"several Lives", []string{"k", "k", "k"}, []string{"k"}},
		{"another order than that of the dots", []string{"z", "m", "a"}, []string{"a", "m", "z"}},
		{"several Lives apart", []string{"b", "a", "b", "c", "a", "b"}, []string{"a", "b", "c"}},
		{"a beginning is less", []string{"ab", "abcdefgh", "a", "b", "abc"}, []string{"a", "ab", "abc", "abcdefgh", "b"}},
		{"byte by byte, not by length", []string{"z", "aaaaaaaa", "zz", "y"}, []string{"aaaaaaaa", "y", "z", "zz"}},
	} {
		var sets, maps, both []impl.Live
		for i, key := range row.keys {
			sets = append(sets, inSet("o", key))
			maps = append(maps, inMap("o", key, i))
			// Beside each one of another object, and one of the other kind whose Key is another one.
			both = append(both, inMap("o", "in"+key[:1], i), inSet("o", key), inSet("p", "other"), inMap("p", key, 1))
		}
		var keysBeside []string
		for _, key := range row.want {
			if k := "in" + key[:1]; !slices.Contains(keysBeside, k) {
				keysBeside = append(keysBeside, k)
			}
		}
		for _, s := range []impl.State{lives(sets...), lives(maps...), lives(both...)} {
			wantState(t, row.name, s, true)
		}
		wantReading(t, row.name+", set", lives(sets...), "o", "none", reading{set: row.want})
		wantReading(t, row.name+", map", lives(maps...), "o", "none", reading{keys: row.want})
		wantReading(t, row.name+", both", lives(both...), "o", "none", reading{set: row.want, keys: keysBeside})
	}
}

func TestMapOf(t *testing.T) {
	for _, row := range []struct {
		name string
		vals []int
		want []int
	}{
		{"none", nil, nil},
		{"one", []int{5}, []int{5}},
		{"the least and the greatest", []int{999999, 0}, []int{0, 999999}},
		{"not in order of their dots", []int{7, 3, 5, 1}, []int{1, 3, 5, 7}},
		{"numbers, not figures", []int{10, 9, 100, 2}, []int{2, 9, 10, 100}},
		{"alike", []int{4, 4, 4}, []int{4, 4, 4}},
		{"alike, others between", []int{6, 2, 6, 0, 2}, []int{0, 2, 2, 6, 6}},
	} {
		var alone, beside []impl.Live
		for _, val := range row.vals {
			alone = append(alone, inMap("o", "k", val))
			beside = append(beside, inMap("o", "j", val+1), inSet("o", "k"), inMap("o", "k", val), inMap("k", "o", 3), inMap("ok", "k", 2))
		}
		for i, list := range [][]impl.Live{alone, beside} {
			for j := range list {
				list[j].Val = min(list[j].Val, 999999)
			}
			s := lives(list...)
			wantState(t, row.name, s, true)
			if got := impl.MapOf(s, "o", "k"); !slices.Equal(got, row.want) {
				t.Errorf("%s (%d): MapOf = %v, not %v", row.name, i, got, row.want)
			}
			wantReading(t, row.name, s, "o", "k", plainReading(s, "o", "k"))
			wantReading(t, row.name, s, "o", "j", plainReading(s, "o", "j"))
		}
	}
	most := manyParts(0, impl.MostParts, 0)
	slices.SortFunc(most.Lives, func(a, b impl.Live) int { return b.Val - a.Val })
	for i := range most.Lives {
		most.Lives[i].Dot = impl.Dot{Rep: i / 50, Seq: i + 1}
	}
	got := impl.MapOf(most, "m", "k")
	if len(got) != impl.MostParts || !slices.IsSorted(got) || got[0] != 0 || got[impl.MostParts-1] != impl.MostParts-1 {
		t.Errorf("MapOf of most Lives = %v", got)
	}
}

// Lives that are not right are read as they stand there: out of order, with one dot, with no names, of a set with a Val.
func TestLivesOfWrongStatesAreRead(t *testing.T) {
	s := unrightState()
	wantReading(t, "wrong", s, "m", "x", reading{set: []string{"x"}, vals: []int{-3, -3, 5}, keys: []string{"x"}})
	wantReading(t, "wrong", s, "", "", reading{count: 8, vals: []int{6}, keys: []string{""}})
	wantReading(t, "wrong", s, "", "x", reading{count: 8, keys: []string{""}})
	wantReading(t, "wrong", s, "r", "", reading{})
	turned := lives(inSet("o", "b"), inMap("o", "y", 4), inSet("o", "a"), inMap("o", "y", 3), inMap("o", "x", 9))
	slices.Reverse(turned.Lives)
	wantState(t, "turned", turned, false)
	wantReading(t, "turned", turned, "o", "y", reading{set: []string{"a", "b"}, vals: []int{3, 4}, keys: []string{"x", "y"}})
	far := lives(inMap("o", "k", math.MaxInt), inMap("o", "k", math.MinInt), inMap("o", "k", -1), inMap("o", "k", 1000000))
	wantState(t, "far", far, false)
	wantReading(t, "far", far, "o", "k", reading{vals: []int{math.MinInt, -1, 1000000, math.MaxInt}, keys: []string{"k"}})
	bytes := lives(inSet("o", "\xff"), inSet("o", "z"), inSet("o", "é"), inSet("o", ""), inSet("o", "\x00"), inSet("o", "Z"), inSet("o", "\xff"))
	wantReading(t, "bytes", bytes, "o", "", reading{set: []string{"", "\x00", "Z", "z", "é", "\xff"}})
	over := manyParts(0, 500, 0)
	if got := impl.MapOf(over, "m", "k"); len(got) != 500 || got[499] != 499 || !slices.Equal(impl.KeysOf(over, "m"), []string{"k"}) {
		t.Errorf("MapOf of 500 Lives = %v", got)
	}
	for i, s := range wrongStates() {
		for _, obj := range []string{"c", "d", "m", "s", "r", "q", "", "none"} {
			for _, key := range []string{"x", "y", "abcdefgh", "", "k"} {
				want := plainReading(s, obj, key)
				want.count = impl.CountOf(s, obj) // held against sums written out by hand elsewhere
				wantReading(t, "wrong state "+strconv.Itoa(i), s, obj, key, want)
			}
		}
	}
}

func TestNamesThatAreNone(t *testing.T) {
	for _, name := range wrongNames() {
		wantReading(t, "an obj that is no name", someState(), name, "x", reading{})
		wantReading(t, "a key that is no name", someState(), "m", name, reading{set: []string{"x"}, keys: []string{"x", "y"}})
		s := lives(inSet(name, name), inMap(name, name, 8))
		wantReading(t, "names that are none, there", s, name, name, reading{set: []string{name}, vals: []int{8}, keys: []string{name}})
	}
}

// cells come in any order here, and stand in that of their dots.
func cells(rows ...impl.Cell) impl.State {
	s := impl.State{Know: []int{impl.MaxSeq, impl.MaxSeq, impl.MaxSeq}, Cells: slices.Clone(rows)}
	sort.Slice(s.Cells, func(i, j int) bool { return dotLess(s.Cells[i].Dot, s.Cells[j].Dot) })
	return s
}

// cell has a Val that tells its dot.
func cell(rep, seq, time int, ref impl.Dot) impl.Cell {
	return impl.Cell{Obj: "r", Dot: impl.Dot{Rep: rep, Seq: seq}, Time: time, Ref: ref, Val: 1000*rep + seq}
}

func dot(rep, seq int) impl.Dot { return impl.Dot{Rep: rep, Seq: seq} }

// wantRow tells a row by the Vals that tell the dots; the state goes without Cells that are Gone.
func wantRow(t *testing.T, name string, s impl.State, want ...int) {
	t.Helper()
	wantState(t, name, s, true)
	var dots []impl.Dot
	for _, val := range want {
		dots = append(dots, dot(val/1000, val%1000))
	}
	wantReading(t, name, s, "r", "", reading{dots: dots, row: want})
}

func TestRowAtItsBeginning(t *testing.T) {
	none := impl.Dot{}
	wantRow(t, "none", cells())
	wantRow(t, "one", cells(cell(1, 5, 3, none)), 1005)
	wantRow(t, "by Time", cells(cell(0, 1, 3, none), cell(0, 2, 1, none), cell(0, 3, 2, none)), 1, 3, 2)
	wantRow(t, "by Time ahead of Rep", cells(cell(0, 1, 9, none), cell(1, 1, 8, none), cell(2, 1, 7, none)), 1, 1001, 2001)
	wantRow(t, "by Time ahead of Seq", cells(cell(1, 1, 9, none), cell(1, 2, 8, none)), 1001, 1002)
	wantRow(t, "by Rep", cells(cell(0, 1, 4, none), cell(1, 1, 4, none), cell(2, 1, 4, none)), 2001, 1001, 1)
	wantRow(t, "by Rep ahead of Seq", cells(cell(0, 9, 4, none), cell(1, 5, 4, none), cell(2, 1, 4, none)), 2001, 1005, 9)
	wantRow(t, "by Seq", cells(cell(1, 1, 4, none), cell(1, 3, 4, none), cell(1, 2, 4, none)), 1003, 1002, 1001)
	wantRow(t, "by all", cells(cell(0, 1, 4, none), cell(0, 2, 4, none), cell(1, 1, 4, none), cell(1, 2, 5, none), cell(2, 1, 3, none)), 1002, 1001, 2, 1, 2001)
	wantRow(t, "the outermost Times", cells(cell(0, 1, 1, none), cell(1, 1, lastTime, none), cell(2, 1, lastTime-1, none)), 1001, 2001, 1)
	wantRow(t, "numbers, not figures", cells(cell(0, 1, 10, none), cell(0, 2, 9, none), cell(0, 10, 10, none), cell(0, 9, 10, none)), 10, 9, 1, 2)
}

func TestRowBehindCells(t *testing.T) {
	none := impl.Dot{}
	one := cell(0, 1, 1, none)
	wantRow(t, "behind one", cells(one, cell(0, 2, 2, dot(0, 1))), 1, 2)
	wantRow(t, "behind one, its list the other way round", cells(cell(2, 1, 1, none), cell(0, 2, 2, dot(2, 1))), 2001, 2)
	wantRow(t, "behind one by Time", cells(one, cell(0, 2, 3, dot(0, 1)), cell(0, 3, 2, dot(0, 1)), cell(0, 4, 4, dot(0, 1))), 1, 4, 2, 3)
	wantRow(t, "behind one by Rep", cells(one, cell(0, 3, 2, dot(0, 1)), cell(1, 2, 2, dot(0, 1)), cell(2, 1, 2, dot(0, 1))), 1, 2001, 1002, 3)
	wantRow(t, "behind one by Seq", cells(one, cell(1, 2, 2, dot(0, 1)), cell(1, 3, 2, dot(0, 1)), cell(1, 1, 2, dot(0, 1))), 1, 1003, 1002, 1001)
	wantRow(t, "behind those behind", cells(one,
		cell(1, 1, 5, dot(0, 1)), cell(1, 2, 6, dot(0, 1)),
		cell(2, 1, 7, dot(1, 1)), cell(2, 2, 9, dot(1, 1)),
		cell(2, 3, 8, dot(1, 2)), cell(2, 4, 8, dot(1, 2)),
		cell(0, 7, 10, dot(2, 2))), 1, 1002, 2004, 2003, 1001, 2002, 7, 2001)
	wantRow(t, "a later one behind an earlier one stays with it", cells(cell(0, 1, 5, none), cell(1, 1, 4, none), cell(2, 1, 100, dot(1, 1))), 1, 1001, 2001)
	wantRow(t, "two beginnings with two behind each", cells(
		cell(0, 1, 3, none), cell(1, 1, 3, none),
		cell(0, 2, 4, dot(0, 1)), cell(1, 2, 4, dot(0, 1)),
		cell(0, 3, 4, dot(1, 1)), cell(1, 3, 4, dot(1, 1))), 1001, 1003, 3, 1, 1002, 2)
}

func TestRowsBesideEachOther(t *testing.T) {
	other := func(c impl.Cell) impl.Cell {
		c.Obj = "q"
		return c
	}
	s := cells(
		cell(0, 1, 1, impl.Dot{}), other(cell(0, 2, 2, impl.Dot{})),
		cell(1, 1, 3, dot(0, 1)), other(cell(1, 2, 3, dot(0, 2))),
		other(cell(2, 1, 9, impl.Dot{})), cell(2, 2, 4, dot(0, 1)), other(cell(2, 3, 10, dot(0, 2))),
	)
	wantRow(t, "one row", s, 1, 2002, 1001)
	wantReading(t, "the other one", s, "q", "", reading{
		dots: []impl.Dot{dot(2, 1), dot(0, 2), dot(2, 3), dot(1, 2)},
		row:  []int{2001, 2, 2003, 1002},
	})
	for _, obj := range []string{"rr", "p", "s", "", "R"} {
		wantReading(t, "no row", s, obj, "", reading{})
	}
}

func TestPlaceIn(t *testing.T) {
	s := cells(
		cell(0, 1, 1, impl.Dot{}), cell(0, 2, 2, impl.Dot{}), cell(0, 3, 3, dot(0, 1)),
		cell(1, 1, 4, dot(0, 1)), cell(1, 2, 5, dot(0, 2)), cell(1, 3, 6, dot(0, 3)),
	)
	gone := changedState(s, func(s *impl.State) { s.Cells[1].Gone, s.Cells[3].Gone, s.Cells[5].Gone = true, true, true })
	for _, row := range []struct {
		s    impl.State
		obj  string
		i    int
		want impl.Dot
		ok   bool
	}{
		{s, "r", 0, dot(0, 2), true}, {s, "r", 1, dot(1, 2), true}, {s, "r", 2, dot(0, 1), true},
		{s, "r", 3, dot(1, 1), true}, {s, "r", 4, dot(0, 3), true}, {s, "r", 5, dot(1, 3), true},
		{s, "r", 6, dot(0, 0), false}, {s, "r", -1, dot(0, 0), false},
		{s, "r", math.MaxInt, dot(0, 0), false}, {s, "r", math.MinInt, dot(0, 0), false},
		{gone, "r", 0, dot(1, 2), true}, {gone, "r", 1, dot(0, 1), true}, {gone, "r", 2, dot(0, 3), true},
		{gone, "r", 3, dot(0, 0), false}, {gone, "r", 5, dot(0, 0), false}, {gone, "r", -1, dot(0, 0), false},
		{s, "q", 0, dot(0, 0), false}, {s, "", 0, dot(0, 0), false}, {s, "q", -1, dot(0, 0), false},
		{impl.StateNew(), "r", 0, dot(0, 0), false}, {impl.State{}, "r", 0, dot(0, 0), false},
	} {
		if d, ok := impl.PlaceIn(row.s, row.obj, row.i); d != row.want || ok != row.ok {
			t.Errorf("PlaceIn(%q, %d) = %v, %v, not %v, %v", row.obj, row.i, d, ok, row.want, row.ok)
		}
	}
}

// Whichever cells are gone, their dots stand where they stood, and what is behind them is read.
func TestCellsThatAreGone(t *testing.T) {
	s := cells(
		cell(0, 1, 1, impl.Dot{}), cell(1, 1, 2, dot(0, 1)), cell(2, 1, 3, dot(1, 1)),
		cell(0, 2, 4, impl.Dot{}), cell(1, 2, 5, dot(0, 1)), cell(2, 2, 2, dot(0, 1)),
	)
	order := []int{2, 1, 1002, 2002, 1001, 2001}
	wantRow(t, "none is gone", s, order...)
	for gone := range 1 << len(order) {
		var dots []impl.Dot
		var row []int
		some := changedState(s, func(s *impl.State) {
			for i, val := range order {
				d := dot(val/1000, val%1000)
				dots = append(dots, d)
				if gone>>i&1 == 0 {
					row = append(row, val)
					continue
				}
				s.Cells[impl.CellAt(*s, d)].Gone = true
			}
		})
		wantState(t, "some are gone", some, true)
		wantReading(t, "some are gone", some, "r", "", reading{dots: dots, row: row})
	}
}

func TestLongRows(t *testing.T) {
	most := impl.MostParts
	var chained, first, fan, comb []impl.Cell
	var chainedWant, firstWant, fanWant, combWant []int
	for i := range most {
		rep, seq := i%impl.Reps, i+1
		c := cell(rep, seq, i+1, impl.Dot{})
		first = append(first, c)
		firstWant = append([]int{c.Val}, firstWant...)
		if i > 0 {
			c.Ref = first[i-1].Dot
		}
		chained = append(chained, c)
		chainedWant = append(chainedWant, c.Val)
		if i > 0 {
			c.Ref = first[0].Dot
		}
		fan = append(fan, c)
		// Two behind each cell of a spine: the spine's next one, and one that is earlier.
		if i > 0 {
			c.Ref = first[(i-1)/2*2].Dot
		}
		comb = append(comb, c)
	}
	fanWant = append([]int{first[0].Val}, firstWant[:most-1]...)
	for i := 0; i < most; i += 2 {
		combWant = append(combWant, first[i].Val)
	}
	for i := most - 1; i > 0; i -= 2 {
		combWant = append(combWant, first[i].Val)
	}
	wantRow(t, "all behind one another", cells(chained...), chainedWant...)
	wantRow(t, "all at the beginning", cells(first...), firstWant...)
	wantRow(t, "all behind one", cells(fan...), fanWant...)
	wantRow(t, "a comb", cells(comb...), combWant...)
	for _, list := range [][]impl.Cell{chained, first, fan, comb} {
		allGone := slices.Clone(list)
		for i := range allGone {
			allGone[i].Gone = true
		}
		s := cells(allGone...)
		wantState(t, "all gone", s, true)
		if got := readingOf(t, s, "r", ""); len(got.dots) != most || len(got.row) != 0 {
			t.Errorf("a row of %d that are gone is read as %+v", most, got)
		}
		over := cells(append(list, cell(2, 900, 9000, impl.Dot{}))...)
		wantState(t, "one more", over, false)
		wantReading(t, "one more", over, "r", "", reading{})
	}
}

// wrongRows are not right, most of them for a Ref alone.
func wrongRows() map[string]impl.State {
	none := impl.Dot{}
	return map[string]impl.State{
		"behind itself":             cells(cell(0, 1, 1, dot(0, 1))),
		"behind itself, others":     cells(cell(0, 1, 1, none), cell(0, 2, 2, dot(0, 2)), cell(0, 3, 3, dot(0, 1))),
		"two go round":              cells(cell(0, 1, 1, dot(0, 2)), cell(0, 2, 2, dot(0, 1))),
		"two go round, same Time":   cells(cell(0, 1, 2, dot(1, 1)), cell(1, 1, 2, dot(0, 1))),
		"three go round":            cells(cell(0, 1, 1, dot(2, 1)), cell(1, 1, 2, dot(0, 1)), cell(2, 1, 3, dot(1, 1))),
		"a way into a round":        cells(cell(0, 9, 1, none), cell(0, 1, 5, dot(0, 2)), cell(0, 2, 6, dot(0, 1)), cell(0, 3, 7, dot(0, 2))),
		"no Ref there":              cells(cell(0, 1, 1, none), cell(0, 2, 2, dot(0, 5))),
		"the same Time":             cells(cell(0, 1, 2, none), cell(0, 2, 2, dot(0, 1))),
		"a nothing with a Rep":      cells(cell(0, 1, 2, dot(1, 0))),
		"a cell with no dot":        cells(cell(0, 0, 1, none), cell(0, 1, 2, none)),
		"a cell with no dot, alone": cells(cell(0, 0, 1, none)),
		"one dot twice":             cells(cell(0, 1, 1, none), cell(0, 1, 1, none)),
		"one dot twice, Refs":       cells(cell(0, 1, 1, none), cell(0, 1, 2, dot(0, 1)), cell(0, 2, 3, dot(0, 1))),
		"Time 0":                    cells(cell(0, 1, 0, none)),
		"Val below 0":               changedState(cells(cell(0, 1, 1, none)), func(s *impl.State) { s.Cells[0].Val = -1 }),
		"out of order":              changedState(cells(cell(0, 1, 1, none), cell(1, 1, 2, none)), func(s *impl.State) { slices.Reverse(s.Cells) }),
		"not known":                 changedState(cells(cell(0, 5, 1, none)), func(s *impl.State) { s.Know[0] = 4 }),
		"no Know":                   changedState(cells(cell(0, 1, 1, none)), func(s *impl.State) { s.Know = nil }),
		"a Tally is wrong":          changedState(cells(cell(0, 1, 1, none)), func(s *impl.State) { s.Tallies = []impl.Tally{{Obj: "c", Sum: 1000000}} }),
		"a Live is wrong":           changedState(cells(cell(0, 1, 1, none)), func(s *impl.State) { s.Lives = []impl.Live{{Obj: "o", Key: "k", Val: 1, Dot: dot(0, 2)}} }),
		"another row is wrong": changedState(cells(cell(0, 1, 1, none), cell(0, 2, 2, none)), func(s *impl.State) {
			s.Cells[1].Obj, s.Cells[1].Ref = "q", dot(0, 2)
		}),
		"a Ref of another row": changedState(cells(cell(0, 1, 1, none), cell(0, 2, 2, dot(0, 1))), func(s *impl.State) { s.Cells[0].Obj = "q" }),
	}
}

func TestRowsOfWrongStatesAreNothing(t *testing.T) {
	all := wrongRows()
	for i, s := range wrongStates() {
		all["wrong state "+strconv.Itoa(i)] = s
	}
	for name, s := range all {
		wantState(t, name, s, false)
		for _, obj := range []string{"r", "q", "", "none"} {
			got := readingOf(t, s, obj, "")
			if len(got.dots) != 0 || len(got.row) != 0 {
				t.Errorf("%s: the row %q is read as %v, %v", name, obj, got.dots, got.row)
			}
		}
	}
	// The counters and lives beside a wrong row are read all the same.
	s := changedState(someState(), func(s *impl.State) { s.Cells[0].Ref = s.Cells[0].Dot })
	wantReading(t, "beside a wrong row", s, "c", "", reading{count: 7})
	wantReading(t, "beside a wrong row", s, "m", "x", reading{set: []string{"x"}, vals: []int{3, 4}, keys: []string{"x", "y"}})
}

func TestAllSmallRowsAreRead(t *testing.T) {
	dots := []impl.Dot{dot(0, 1), dot(0, 2), dot(1, 1), dot(2, 1)}
	right := 0
	list := make([]impl.Cell, len(dots))
	for number := range 81 * 625 {
		times, refs := number%81, number/81
		for i, d := range dots {
			list[i] = impl.Cell{Obj: "r", Dot: d, Time: times%3 + 1, Val: i, Gone: number*7>>i&1 == 1}
			if ref := refs % 5; ref > 0 {
				list[i].Ref = dots[ref-1]
			}
			times, refs = times/3, refs/5
		}
		s := impl.State{Know: []int{2, 1, 1}, Cells: list}
		want := plainReading(s, "r", "")
		if got := readOnce(s, "r", ""); !got.same(want) {
			t.Fatalf("%+v is read as %+v, not %+v", list, got, want)
		}
		if impl.StateOk(s) {
			right++
			wantPlaces(t, s, "r", want)
		}
	}
	if right < 800 {
		t.Errorf("only %d were right", right)
	}
}

func TestWhatIsReadIsWhatIs(t *testing.T) {
	for seed := range int64(40) {
		r := rand.New(rand.NewSource(seed))
		acts := drawnActs(t, r, 60)
		s := impl.StateNew()
		for i, a := range acts {
			s, _ = impl.DoAct(s, a)
			if i%6 != 0 && i < len(acts)-1 {
				continue
			}
			for _, obj := range []string{"a", "b", "c"} {
				for _, key := range []string{"j", "k", "l"} {
					wantReading(t, "drawn", s, obj, key, plainReading(s, obj, key))
				}
			}
		}
	}
}

// Each kind of act is read where it belongs, and nowhere else.
func TestWhatWasDoneIsRead(t *testing.T) {
	s := impl.StateNew()
	does := func(a impl.Act) {
		t.Helper()
		next, code := impl.DoAct(s, a)
		if code != 0 {
			t.Fatalf("%+v told %d", a, code)
		}
		s = next
	}
	want := reading{}
	does(counts(s, 0, "o", 999999))
	want.count = 999999
	wantReading(t, "count", s, "o", "k", want)
	does(counts(s, 1, "o", 3))
	want.count = 2
	wantReading(t, "count of another", s, "o", "k", want)
	does(keyed(s, 1, impl.AcAdd, "o", "k", 0))
	does(keyed(s, 0, impl.AcAdd, "o", "j", 0))
	want.set = []string{"j", "k"}
	wantReading(t, "add", s, "o", "k", want)
	beside := s
	does(keyed(s, 1, impl.AcPut, "o", "k", 8))
	want.keys, want.vals = []string{"k"}, []int{8}
	wantReading(t, "put", s, "o", "k", want)
	does(keyed(beside, 2, impl.AcPut, "o", "k", 5))
	want.vals = []int{5, 8}
	wantReading(t, "put by two that did not know each other", s, "o", "k", want)
	does(inserts(s, 2, "o", 1, 1, impl.Dot{}))
	does(inserts(s, 0, "o", 2, 2, dot(2, 2)))
	does(inserts(s, 1, "o", 3, 3, dot(2, 2)))
	want.dots, want.row = []impl.Dot{dot(2, 2), dot(1, 4), dot(0, 3)}, []int{1, 3, 2}
	wantReading(t, "insert", s, "o", "k", want)
	does(cuts(s, 0, "o", dot(2, 2)))
	want.row = []int{3, 2}
	wantReading(t, "cut", s, "o", "k", want)
	does(keyed(s, 2, impl.AcDel, "o", "k", 0))
	want.set = []string{"j"}
	wantReading(t, "delete", s, "o", "k", want)
	does(keyed(s, 2, impl.AcDrop, "o", "k", 0))
	want.keys, want.vals = nil, nil
	wantReading(t, "drop", s, "o", "k", want)
	wantReading(t, "another object", s, "k", "o", reading{})
}

func TestTextsThatAreReadAreNew(t *testing.T) {
	// Texts of one byte may stand in memory that all of the program has; these are longer.
	obj, key := strings.Repeat("ma", 3), strings.Repeat("ky", 3)
	s := lives(inSet(obj, key), inMap(obj, key, 1), inSet(obj, key), inMap(obj, key, 2))
	got := append(impl.SetOf(s, obj), impl.KeysOf(s, obj)...)
	if !slices.Equal(got, []string{key, key}) {
		t.Fatalf("read were %q", got)
	}
	for _, text := range got {
		if sharesMemory(text, obj) || sharesMemory(text, key) {
			t.Error("a text that is read stands in an argument")
		}
	}
}
