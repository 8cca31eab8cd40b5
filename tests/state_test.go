package tests

import (
	"math"
	"reflect"
	"slices"
	"strings"
	"testing"

	"loop.example/g00463/impl"
)

// someState has some of each of its parts: two counters, a set and a map of the same Obj and Key, two rows with a gone cell.
func someState() impl.State {
	return impl.State{
		Know: []int{9, 5, 4},
		Tallies: []impl.Tally{
			{Obj: "c", Rep: 0, Sum: 7},
			{Obj: "c", Rep: 2, Sum: 0},
			{Obj: "d", Rep: 1, Sum: 999999},
		},
		Lives: []impl.Live{
			{Map: true, Obj: "m", Key: "x", Val: 3, Dot: impl.Dot{Rep: 0, Seq: 2}},
			{Map: false, Obj: "m", Key: "x", Val: 0, Dot: impl.Dot{Rep: 0, Seq: 3}},
			{Map: true, Obj: "m", Key: "y", Val: 0, Dot: impl.Dot{Rep: 1, Seq: 1}},
			{Map: true, Obj: "m", Key: "x", Val: 4, Dot: impl.Dot{Rep: 2, Seq: 1}},
			{Map: false, Obj: "s", Key: "abcdefgh", Val: 0, Dot: impl.Dot{Rep: 2, Seq: 4}},
		},
		Cells: []impl.Cell{
			{Obj: "r", Dot: impl.Dot{Rep: 0, Seq: 4}, Time: 5, Val: 1},
			{Obj: "q", Dot: impl.Dot{Rep: 0, Seq: 6}, Time: 2, Val: 999999, Gone: true},
			{Obj: "r", Dot: impl.Dot{Rep: 0, Seq: 9}, Time: 9, Ref: impl.Dot{Rep: 1, Seq: 5}, Val: 0},
			{Obj: "r", Dot: impl.Dot{Rep: 1, Seq: 5}, Time: 8, Ref: impl.Dot{Rep: 0, Seq: 4}, Val: 2},
			{Obj: "q", Dot: impl.Dot{Rep: 2, Seq: 2}, Time: 10000, Val: 5},
		},
	}
}

// ownState takes the lists anew, so that a change of one state is none of another one.
func ownState(s impl.State) impl.State {
	return impl.State{
		Know:    append([]int{}, s.Know...),
		Tallies: append([]impl.Tally{}, s.Tallies...),
		Lives:   append([]impl.Live{}, s.Lives...),
		Cells:   append([]impl.Cell{}, s.Cells...),
	}
}

func changedState(s impl.State, change func(s *impl.State)) impl.State {
	s = ownState(s)
	change(&s)
	return s
}

// manyParts has so many of each kind of part, every cell but the first behind the one ahead of it.
func manyParts(tallies, lives, cells int) impl.State {
	s := impl.State{Know: []int{impl.MaxSeq, impl.MaxSeq, impl.MaxSeq}}
	for i := range tallies {
		s.Tallies = append(s.Tallies, impl.Tally{Obj: string(rune('a'+i/30)) + string(rune('a'+i/3%10)), Rep: i % 3, Sum: i})
	}
	for i := range lives {
		s.Lives = append(s.Lives, impl.Live{Map: true, Obj: "m", Key: "k", Val: i, Dot: impl.Dot{Rep: i / 50, Seq: i%50 + 1}})
	}
	for i := range cells {
		c := impl.Cell{Obj: "r", Dot: impl.Dot{Rep: i / 50, Seq: i%50 + 101}, Time: i + 1, Val: i}
		if i > 0 {
			c.Ref = s.Cells[i-1].Dot
		}
		s.Cells = append(s.Cells, c)
	}
	return s
}

func wantState(t *testing.T, name string, s impl.State, want bool) {
	t.Helper()
	before := ownState(s)
	if got := impl.StateOk(s); got != want {
		t.Errorf("%s: StateOk = %v of %+v", name, got, s)
	}
	if !reflect.DeepEqual(ownState(s), before) {
		t.Errorf("%s: StateOk wrote into its argument", name)
	}
}

func TestLimitOfParts(t *testing.T) {
	if impl.MostParts != 120 {
		t.Errorf("MostParts = %d", impl.MostParts)
	}
}

func TestStateNew(t *testing.T) {
	s := impl.StateNew()
	if !slices.Equal(s.Know, []int{0, 0, 0}) || len(s.Tallies)+len(s.Lives)+len(s.Cells) != 0 {
		t.Errorf("StateNew() = %+v", s)
	}
	wantState(t, "new", s, true)
	s.Know[1] = 7
	if again := impl.StateNew(); !slices.Equal(again.Know, []int{0, 0, 0}) {
		t.Errorf("StateNew() after a write into an earlier one = %+v", again)
	}
}

func TestStateOkOfSome(t *testing.T) {
	wantState(t, "some of each", someState(), true)
	wantState(t, "of no lists", impl.State{}, false)
	wantState(t, "empty lists", impl.State{Know: []int{0, 0, 0}, Tallies: []impl.Tally{}, Lives: []impl.Live{}, Cells: []impl.Cell{}}, true)
	wantState(t, "nil lists", impl.State{Know: []int{0, 0, 0}}, true)
	for _, empty := range []func(s *impl.State){
		func(s *impl.State) { s.Tallies = nil },
		func(s *impl.State) { s.Lives = nil },
		func(s *impl.State) { s.Cells = nil },
		func(s *impl.State) { s.Tallies, s.Lives = []impl.Tally{}, []impl.Live{} },
	} {
		wantState(t, "without a list", changedState(someState(), empty), true)
	}
}

func TestStateOkOfManyParts(t *testing.T) {
	most := impl.MostParts
	wantState(t, "most of each", manyParts(most, most, most), true)
	for _, row := range []struct {
		tallies, lives, cells int
		want                  bool
	}{
		{0, 0, 0, true},
		{1, 0, 0, true}, {0, 1, 0, true}, {0, 0, 1, true},
		{most - 1, 0, 0, true}, {0, most - 1, 0, true}, {0, 0, most - 1, true},
		{most, 0, 0, true}, {0, most, 0, true}, {0, 0, most, true},
		{most + 1, 0, 0, false}, {0, most + 1, 0, false}, {0, 0, most + 1, false},
		{most + 1, most, most, false}, {most, most + 1, most, false}, {most, most, most + 1, false},
		{most + 2, most + 2, most + 2, false}, {0, 150, 0, false},
	} {
		wantState(t, "many", manyParts(row.tallies, row.lives, row.cells), row.want)
	}
}

func TestStateOkAsksForKnow(t *testing.T) {
	bare := impl.State{Tallies: []impl.Tally{{Obj: "c"}}}
	for _, know := range rightKnowledges() {
		wantState(t, "right Know", changedState(bare, func(s *impl.State) { s.Know = know }), true)
	}
	for _, know := range wrongKnowledges() {
		wantState(t, "wrong Know", changedState(bare, func(s *impl.State) { s.Know = know }), false)
		wantState(t, "wrong Know, no parts", impl.State{Know: know}, false)
		wantState(t, "wrong Know, all parts", changedState(someState(), func(s *impl.State) { s.Know = know }), false)
	}
	for _, know := range [][]int{{8, 5, 4}, {9, 4, 4}, {9, 5, 3}, {0, 0, 0}} {
		wantState(t, "less than its parts", changedState(someState(), func(s *impl.State) { s.Know = know }), false)
	}
	for _, know := range [][]int{{10, 5, 4}, {9, 6, 5}, {1000, 1000, 1000}} {
		wantState(t, "more than its parts", changedState(someState(), func(s *impl.State) { s.Know = know }), true)
	}
}

func TestStateOkOfTallies(t *testing.T) {
	with := func(list ...impl.Tally) impl.State {
		return impl.State{Know: []int{0, 0, 0}, Tallies: list}
	}
	for _, row := range []struct {
		name string
		s    impl.State
		want bool
	}{
		{"Rep -1", with(impl.Tally{Obj: "c", Rep: -1}), false},
		{"Rep 0", with(impl.Tally{Obj: "c", Rep: 0}), true},
		{"Rep Reps - 1", with(impl.Tally{Obj: "c", Rep: impl.Reps - 1}), true},
		{"Rep Reps", with(impl.Tally{Obj: "c", Rep: impl.Reps}), false},
		{"Rep far below", with(impl.Tally{Obj: "c", Rep: math.MinInt}), false},
		{"Rep far above", with(impl.Tally{Obj: "c", Rep: math.MaxInt}), false},
		{"Sum -1", with(impl.Tally{Obj: "c", Sum: -1}), false},
		{"Sum 0", with(impl.Tally{Obj: "c", Sum: 0}), true},
		{"Sum MaxVal", with(impl.Tally{Obj: "c", Sum: impl.MaxVal}), true},
		{"Sum MaxVal and one", with(impl.Tally{Obj: "c", Sum: impl.MaxVal + 1}), false},
		{"Sum far below", with(impl.Tally{Obj: "c", Sum: math.MinInt}), false},
		{"Sum far above", with(impl.Tally{Obj: "c", Sum: math.MaxInt}), false},
		{"eight letters", with(impl.Tally{Obj: "abcdefgh"}), true},
		{"same twice", with(impl.Tally{Obj: "c", Rep: 1, Sum: 1}, impl.Tally{Obj: "c", Rep: 1, Sum: 1}), false},
		{"same twice, other Sums", with(impl.Tally{Obj: "c", Rep: 1, Sum: 1}, impl.Tally{Obj: "c", Rep: 1, Sum: 2}), false},
		{"Reps ascending", with(impl.Tally{Obj: "c", Rep: 0, Sum: 5}, impl.Tally{Obj: "c", Rep: 1}, impl.Tally{Obj: "c", Rep: 2}), true},
		{"Reps descending", with(impl.Tally{Obj: "c", Rep: 1}, impl.Tally{Obj: "c", Rep: 0, Sum: 5}), false},
		{"Objs ascending", with(impl.Tally{Obj: "c", Rep: 2}, impl.Tally{Obj: "d", Rep: 0}), true},
		{"Objs descending", with(impl.Tally{Obj: "d", Rep: 0}, impl.Tally{Obj: "c", Rep: 2}), false},
		{"a beginning ahead", with(impl.Tally{Obj: "c", Rep: 2}, impl.Tally{Obj: "ca", Rep: 0}, impl.Tally{Obj: "d"}), true},
		{"a beginning behind", with(impl.Tally{Obj: "ca", Rep: 0}, impl.Tally{Obj: "c", Rep: 2}), false},
		{"short behind long", with(impl.Tally{Obj: "aaaaaaaa"}, impl.Tally{Obj: "b"}), true},
		{"the first one of a third", with(impl.Tally{Obj: "c"}, impl.Tally{Obj: "d"}, impl.Tally{Obj: "c"}), false},
		{"the last one wrong", with(impl.Tally{Obj: "c"}, impl.Tally{Obj: "d"}, impl.Tally{Obj: "e", Sum: -1}), false},
	} {
		wantState(t, row.name, row.s, row.want)
	}
}

// The rule for Tallies names no form of their Obj, and what a rule does not name is not looked at.
func TestStateOkTakesAnyObjOfTallies(t *testing.T) {
	for _, obj := range []string{"", "abcdefghi", "C", "a b", "\x00\xff", strings.Repeat("a", 100)} {
		wantState(t, "Obj of a Tally", impl.State{Know: []int{0, 0, 0}, Tallies: []impl.Tally{{Obj: obj}}}, true)
	}
	wantState(t, "bytes ascending", impl.State{Know: []int{0, 0, 0}, Tallies: []impl.Tally{{Obj: ""}, {Obj: "Z"}, {Obj: "a"}, {Obj: "\x80"}, {Obj: "\xff"}}}, true)
	wantState(t, "bytes descending", impl.State{Know: []int{0, 0, 0}, Tallies: []impl.Tally{{Obj: "\x80"}, {Obj: "a"}}}, false)
}

func TestStateOkOfLives(t *testing.T) {
	first := impl.Live{Map: true, Obj: "m", Key: "x", Val: 3, Dot: impl.Dot{Rep: 1, Seq: 2}}
	with := func(changes ...func(l *impl.Live)) impl.State {
		s := impl.State{Know: []int{3, 4, 5}}
		for _, change := range changes {
			l := first
			change(&l)
			s.Lives = append(s.Lives, l)
		}
		return s
	}
	at := func(rep, seq int) func(l *impl.Live) {
		return func(l *impl.Live) { l.Dot = impl.Dot{Rep: rep, Seq: seq} }
	}
	worth := func(isMap bool, val int) func(l *impl.Live) {
		return func(l *impl.Live) { l.Map, l.Val = isMap, val }
	}
	for _, row := range []struct {
		name string
		s    impl.State
		want bool
	}{
		{"Val -1", with(worth(true, -1)), false},
		{"Val 0", with(worth(true, 0)), true},
		{"Val MaxVal", with(worth(true, impl.MaxVal)), true},
		{"Val MaxVal and one", with(worth(true, impl.MaxVal+1)), false},
		{"Val far above", with(worth(true, math.MaxInt)), false},
		{"Val 0 without Map", with(worth(false, 0)), true},
		{"Val 1 without Map", with(worth(false, 1)), false},
		{"Val -1 without Map", with(worth(false, -1)), false},
		{"Val MaxVal without Map", with(worth(false, impl.MaxVal)), false},
		{"known just so", with(at(1, 4)), true},
		{"not known by one", with(at(1, 5)), false},
		{"known just so of the first", with(at(0, 3)), true},
		{"not known by one of the first", with(at(0, 4)), false},
		{"known just so of the last", with(at(2, 5)), true},
		{"not known by one of the last", with(at(2, 6)), false},
		{"Seq 1", with(at(0, 1)), true},
		{"Seq 0", with(at(0, 0)), false},
		{"Seq -1", with(at(0, -1)), false},
		{"Rep -1", with(at(-1, 1)), false},
		{"Rep Reps", with(at(impl.Reps, 1)), false},
		{"same Dot twice", with(at(1, 2), at(1, 2)), false},
		{"same Dot twice, one a set", with(at(1, 2), worth(false, 0)), false},
		{"same Dot twice, other Obj and Key", with(at(1, 2), func(l *impl.Live) { l.Obj, l.Key = "z", "z" }), false},
		{"Seqs ascending", with(at(1, 1), at(1, 2), at(1, 4)), true},
		{"Seqs descending", with(at(1, 2), at(1, 1)), false},
		{"Reps ascending, Seqs descending", with(at(0, 3), at(1, 2), at(2, 1)), true},
		{"Reps descending, Seqs ascending", with(at(2, 1), at(1, 2), at(0, 3)), false},
		{"Objs descending", with(at(1, 1), func(l *impl.Live) { l.Obj, l.Key = "a", "a" }), true},
		{"the last one ahead of the second", with(at(0, 1), at(1, 2), at(1, 1)), false},
		{"the last one wrong", with(at(0, 1), at(1, 1), worth(true, -1)), false},
	} {
		wantState(t, row.name, row.s, row.want)
	}
	for _, name := range []string{"a", "z", "abcdefg", "abcdefgh"} {
		wantState(t, "Obj "+name, with(func(l *impl.Live) { l.Obj = name }), true)
		wantState(t, "Key "+name, with(func(l *impl.Live) { l.Key = name }), true)
	}
	for _, name := range wrongNames() {
		wantState(t, "Obj "+name, with(func(l *impl.Live) { l.Obj = name }), false)
		wantState(t, "Key "+name, with(func(l *impl.Live) { l.Key = name }), false)
	}
}

func TestStateOkOfCells(t *testing.T) {
	first := impl.Cell{Obj: "r", Dot: impl.Dot{Rep: 1, Seq: 2}, Time: 3, Val: 4}
	with := func(changes ...func(c *impl.Cell)) impl.State {
		s := impl.State{Know: []int{3, 4, 5}}
		for _, change := range changes {
			c := first
			change(&c)
			s.Cells = append(s.Cells, c)
		}
		return s
	}
	at := func(rep, seq int) func(c *impl.Cell) {
		return func(c *impl.Cell) { c.Dot = impl.Dot{Rep: rep, Seq: seq} }
	}
	val := func(n int) func(c *impl.Cell) { return func(c *impl.Cell) { c.Val = n } }
	time := func(n int) func(c *impl.Cell) { return func(c *impl.Cell) { c.Time = n } }
	for _, row := range []struct {
		name string
		s    impl.State
		want bool
	}{
		{"Val -1", with(val(-1)), false},
		{"Val 0", with(val(0)), true},
		{"Val MaxVal", with(val(impl.MaxVal)), true},
		{"Val MaxVal and one", with(val(impl.MaxVal + 1)), false},
		{"Val far below", with(val(math.MinInt)), false},
		{"Time 0", with(time(0)), false},
		{"Time 1", with(time(1)), true},
		{"Time 10000", with(time(lastTime)), true},
		{"Time 10001", with(time(lastTime + 1)), false},
		{"Time -1", with(time(-1)), false},
		{"Time far above", with(time(math.MaxInt)), false},
		{"Gone", with(func(c *impl.Cell) { c.Gone = true }), true},
		{"known just so", with(at(1, 4)), true},
		{"not known by one", with(at(1, 5)), false},
		{"known just so of the first", with(at(0, 3)), true},
		{"not known by one of the first", with(at(0, 4)), false},
		{"known just so of the last", with(at(2, 5)), true},
		{"not known by one of the last", with(at(2, 6)), false},
		{"Seq 1", with(at(0, 1)), true},
		{"Seq 0", with(at(0, 0)), false},
		{"Rep -1", with(at(-1, 1)), false},
		{"Rep Reps", with(at(impl.Reps, 1)), false},
		{"same Dot twice", with(at(1, 2), at(1, 2)), false},
		{"same Dot twice, all else unlike", with(at(1, 2), func(c *impl.Cell) { c.Obj, c.Time, c.Val, c.Gone = "q", 9, 9, true }), false},
		{"Seqs ascending", with(at(1, 1), at(1, 2), at(1, 4)), true},
		{"Seqs descending", with(at(1, 2), at(1, 1)), false},
		{"Reps ascending, Seqs descending", with(at(0, 3), at(1, 2), at(2, 1)), true},
		{"Reps descending, Seqs ascending", with(at(2, 1), at(1, 2), at(0, 3)), false},
		{"the last one wrong", with(at(0, 1), at(1, 1), val(-1)), false},
		{"same Dot as a Live", changedState(with(at(1, 2)), func(s *impl.State) {
			s.Lives = []impl.Live{{Obj: "s", Key: "k", Dot: impl.Dot{Rep: 1, Seq: 2}}}
		}), true},
	} {
		wantState(t, row.name, row.s, row.want)
	}
	for _, name := range []string{"a", "z", "abcdefg", "abcdefgh"} {
		wantState(t, "Obj "+name, with(func(c *impl.Cell) { c.Obj = name }), true)
	}
	for _, name := range wrongNames() {
		wantState(t, "Obj "+name, with(func(c *impl.Cell) { c.Obj = name }), false)
	}
}

func TestStateOkOfRefs(t *testing.T) {
	// Two rows of three cells; the middle one of the first row is the one whose Ref is changed.
	s := impl.State{Know: []int{3, 4, 5}, Cells: []impl.Cell{
		{Obj: "r", Dot: impl.Dot{Rep: 0, Seq: 1}, Time: 6},
		{Obj: "q", Dot: impl.Dot{Rep: 0, Seq: 2}, Time: 1},
		{Obj: "r", Dot: impl.Dot{Rep: 1, Seq: 1}, Time: 5},
		{Obj: "r", Dot: impl.Dot{Rep: 1, Seq: 3}, Time: 4, Gone: true},
		{Obj: "r", Dot: impl.Dot{Rep: 2, Seq: 1}, Time: 5},
	}}
	wantState(t, "no Refs", s, true)
	for _, row := range []struct {
		name string
		ref  impl.Dot
		want bool
	}{
		{"nothing", impl.Dot{}, true},
		{"nothing but for Rep 1", impl.Dot{Rep: 1}, false},
		{"nothing but for Rep 2", impl.Dot{Rep: 2}, false},
		{"nothing but for Rep -1", impl.Dot{Rep: -1}, false},
		{"nothing but for Rep Reps", impl.Dot{Rep: impl.Reps}, false},
		{"nothing but for Seq -1", impl.Dot{Seq: -1}, false},
		{"nothing but for Seq 1, whose Time is greater", impl.Dot{Seq: 1}, false},
		{"nothing but for Seq 3, which no Cell has", impl.Dot{Seq: 3}, false},
		{"no Cell, but known", impl.Dot{Rep: 1, Seq: 2}, false},
		{"no Cell, not known", impl.Dot{Rep: 2, Seq: 6}, false},
		{"of another Obj", impl.Dot{Rep: 0, Seq: 2}, false},
		{"the same Time", impl.Dot{Rep: 2, Seq: 1}, false},
		{"a greater Time", impl.Dot{Rep: 0, Seq: 1}, false},
		{"a lesser Time, though Gone and behind it", impl.Dot{Rep: 1, Seq: 3}, true},
		{"its own Dot", impl.Dot{Rep: 1, Seq: 1}, false},
		{"far off", impl.Dot{Rep: math.MaxInt, Seq: math.MinInt}, false},
	} {
		wantState(t, row.name, changedState(s, func(s *impl.State) { s.Cells[2].Ref = row.ref }), row.want)
	}
	for _, time := range []int{1, 2, 3, 4, 5, 6} {
		row := changedState(s, func(s *impl.State) {
			s.Cells[0].Time, s.Cells[4].Time, s.Cells[0].Ref, s.Cells[4].Ref = 4, time, s.Cells[4].Dot, impl.Dot{}
		})
		wantState(t, "a Ref behind it in the list", row, time < 4)
		row = changedState(s, func(s *impl.State) {
			s.Cells[0].Time, s.Cells[4].Time, s.Cells[4].Ref = 4, time, s.Cells[0].Dot
		})
		wantState(t, "a Ref ahead of it in the list", row, time > 4)
	}
	alone := impl.State{Know: []int{3, 4, 5}, Cells: []impl.Cell{{Obj: "r", Dot: impl.Dot{Rep: 0, Seq: 1}, Time: 6, Ref: impl.Dot{Rep: 0, Seq: 1}}}}
	wantState(t, "alone behind itself", alone, false)
	live := changedState(s, func(s *impl.State) {
		s.Cells[2].Ref = impl.Dot{Rep: 1, Seq: 2}
		s.Lives = []impl.Live{{Map: true, Obj: "r", Key: "k", Dot: impl.Dot{Rep: 1, Seq: 2}}}
	})
	wantState(t, "a Ref that is a Live", live, false)
	for i := range impl.MostParts {
		broken := changedState(manyParts(0, 0, impl.MostParts), func(s *impl.State) { s.Cells[i].Ref = s.Cells[i].Dot })
		wantState(t, "one of many behind itself", broken, false)
	}
}

// plainlyRightCells goes by the words of the document, cell by cell and pair by pair.
func plainlyRightCells(know []int, cells []impl.Cell) bool {
	for i, c := range cells {
		d := c.Dot
		if d.Rep < 0 || d.Rep > 2 || d.Seq < 1 || d.Seq > know[d.Rep] {
			return false
		}
		found := c.Ref.Rep == 0 && c.Ref.Seq == 0
		for j, o := range cells {
			if j < i && !(o.Dot.Rep < d.Rep || o.Dot.Rep == d.Rep && o.Dot.Seq < d.Seq) {
				return false
			}
			found = found || o.Dot == c.Ref && o.Obj == c.Obj && o.Time < c.Time
		}
		if !found {
			return false
		}
	}
	return true
}

func TestStateOkOfAllSmallRows(t *testing.T) {
	dots := []impl.Dot{{Rep: 0, Seq: 0}, {Rep: 0, Seq: 1}, {Rep: 0, Seq: 2}, {Rep: 1, Seq: 1}, {Rep: 1, Seq: 2}}
	know := []int{2, 1, 0}
	var cells []impl.Cell
	for _, obj := range []string{"q", "r"} {
		for _, d := range dots {
			for _, ref := range dots {
				for time := 1; time <= 2; time++ {
					cells = append(cells, impl.Cell{Obj: obj, Dot: d, Time: time, Ref: ref})
				}
			}
		}
	}
	right := 0
	for _, a := range cells {
		for _, b := range cells {
			for _, c := range cells {
				list := []impl.Cell{a, b, c}
				want := plainlyRightCells(know, list)
				if got := impl.StateOk(impl.State{Know: know, Cells: list}); got != want {
					t.Fatalf("StateOk = %v of %+v", got, list)
				}
				if want {
					right++
				}
			}
		}
	}
	if right == 0 {
		t.Error("none was right")
	}
}

// changesOfState change one thing each of someState, each to another state than all others.
func changesOfState() []func(s *impl.State) {
	changes := []func(s *impl.State){
		func(s *impl.State) { s.Know[0]++ },
		func(s *impl.State) { s.Know[1]-- },
		func(s *impl.State) { s.Know[2]++ },
		func(s *impl.State) { s.Know = s.Know[:2] },
		func(s *impl.State) { s.Know = append(s.Know, 0) },
		func(s *impl.State) { s.Know = nil },
		func(s *impl.State) { s.Tallies = nil },
		func(s *impl.State) { s.Tallies = s.Tallies[:2] },
		func(s *impl.State) { s.Tallies = s.Tallies[1:] },
		func(s *impl.State) { s.Tallies = append(s.Tallies, impl.Tally{}) },
		func(s *impl.State) { s.Tallies = append(s.Tallies, s.Tallies[2]) },
		func(s *impl.State) { s.Tallies[0], s.Tallies[1] = s.Tallies[1], s.Tallies[0] },
		func(s *impl.State) { s.Lives = nil },
		func(s *impl.State) { s.Lives = s.Lives[:4] },
		func(s *impl.State) { s.Lives = s.Lives[1:] },
		func(s *impl.State) { s.Lives = append(s.Lives, impl.Live{}) },
		func(s *impl.State) { s.Lives = append(s.Lives, s.Lives[4]) },
		func(s *impl.State) { s.Lives[0], s.Lives[3] = s.Lives[3], s.Lives[0] },
		func(s *impl.State) { s.Cells = nil },
		func(s *impl.State) { s.Cells = s.Cells[:4] },
		func(s *impl.State) { s.Cells = s.Cells[1:] },
		func(s *impl.State) { s.Cells = append(s.Cells, impl.Cell{}) },
		func(s *impl.State) { s.Cells = append(s.Cells, s.Cells[4]) },
		func(s *impl.State) { s.Cells[1], s.Cells[2] = s.Cells[2], s.Cells[1] },
	}
	for i := range someState().Tallies {
		changes = append(changes,
			func(s *impl.State) { s.Tallies[i].Obj += "a" },
			func(s *impl.State) { s.Tallies[i].Rep++ },
			func(s *impl.State) { s.Tallies[i].Sum++ })
	}
	for i := range someState().Lives {
		changes = append(changes,
			func(s *impl.State) { s.Lives[i].Map = !s.Lives[i].Map },
			func(s *impl.State) { s.Lives[i].Obj += "a" },
			func(s *impl.State) { s.Lives[i].Key = "k" + s.Lives[i].Key[1:] },
			func(s *impl.State) { s.Lives[i].Val-- },
			func(s *impl.State) { s.Lives[i].Dot.Rep-- },
			func(s *impl.State) { s.Lives[i].Dot.Seq += 5 })
	}
	for i := range someState().Cells {
		changes = append(changes,
			func(s *impl.State) { s.Cells[i].Obj = "o" },
			func(s *impl.State) { s.Cells[i].Dot.Rep++ },
			func(s *impl.State) { s.Cells[i].Dot.Seq-- },
			func(s *impl.State) { s.Cells[i].Time++ },
			func(s *impl.State) { s.Cells[i].Ref.Rep++ },
			func(s *impl.State) { s.Cells[i].Ref.Seq++ },
			func(s *impl.State) { s.Cells[i].Val++ },
			func(s *impl.State) { s.Cells[i].Gone = !s.Cells[i].Gone })
	}
	return changes
}

func statesToCompare() []impl.State {
	out := []impl.State{someState(), impl.StateNew(), {}, manyParts(120, 120, 120), manyParts(121, 120, 120), manyParts(120, 120, 119)}
	for _, change := range changesOfState() {
		out = append(out, changedState(someState(), change))
	}
	return out
}

func TestWhatIsIsLikeItselfAlone(t *testing.T) {
	all := statesToCompare()
	for i, a := range all {
		if !impl.SameState(a, a) || !impl.SameState(a, ownState(a)) || !impl.SameState(ownState(a), a) {
			t.Errorf("%+v is not like itself", a)
		}
		for j, b := range all {
			before := ownState(b)
			if got := impl.SameState(a, b); got != (i == j) {
				t.Errorf("SameState(%+v, %+v) = %v", a, b, got)
			}
			if !reflect.DeepEqual(ownState(b), before) {
				t.Fatal("SameState wrote into its argument")
			}
		}
	}
}

func TestSameStateOfEmptyLists(t *testing.T) {
	know := []int{0, 0, 0}
	empty := impl.State{Know: know, Tallies: []impl.Tally{}, Lives: []impl.Live{}, Cells: []impl.Cell{}}
	if !impl.SameState(empty, impl.StateNew()) || !impl.SameState(impl.StateNew(), empty) || !impl.SameState(impl.State{Know: []int{}}, impl.State{}) {
		t.Error("nil and empty lists are not the same")
	}
	for _, other := range []impl.State{
		{Know: know, Tallies: []impl.Tally{{}}},
		{Know: know, Lives: []impl.Live{{}}},
		{Know: know, Cells: []impl.Cell{{}}},
		{},
	} {
		if impl.SameState(empty, other) || impl.SameState(other, empty) {
			t.Errorf("nothing is the same as %+v", other)
		}
	}
	roomy := impl.State{Know: make([]int, 3, 9), Tallies: make([]impl.Tally, 0, 5), Cells: make([]impl.Cell, 0, 5)}
	if !impl.SameState(roomy, empty) || !impl.StateOk(roomy) {
		t.Error("spare room behind lists tells")
	}
}

// unrightState has parts that are alike, out of order and out of limits, under a Know that is none.
func unrightState() impl.State {
	return impl.State{
		Know: []int{-1},
		Tallies: []impl.Tally{
			{Obj: "d", Rep: 7, Sum: -4},
			{Obj: "c", Rep: 1, Sum: 5},
			{Obj: "c", Rep: 1, Sum: 6},
			{Obj: "c", Rep: 0, Sum: math.MaxInt},
			{Obj: "", Rep: -1, Sum: 8},
			{Obj: "d", Rep: 7, Sum: 9},
		},
		Lives: []impl.Live{
			{Map: true, Obj: "m", Key: "x", Val: -3, Dot: impl.Dot{Rep: 2, Seq: 2}},
			{Map: false, Obj: "m", Key: "x", Val: 4, Dot: impl.Dot{Rep: 2, Seq: 1}},
			{Map: true, Obj: "m", Key: "x", Val: 5, Dot: impl.Dot{Rep: 0, Seq: 0}},
			{Map: true, Obj: "", Key: "", Val: 6, Dot: impl.Dot{Rep: 0, Seq: 0}},
			{Map: true, Obj: "m", Key: "x", Val: -3, Dot: impl.Dot{Rep: 2, Seq: 2}},
			{Map: false, Obj: "m", Key: "x", Val: 4, Dot: impl.Dot{Rep: 2, Seq: 1}},
		},
		Cells: []impl.Cell{
			{Obj: "r", Dot: impl.Dot{Rep: 5, Seq: -5}, Time: -1},
			{Obj: "r", Dot: impl.Dot{Rep: 1, Seq: 1}, Time: 1, Val: 1},
			{Obj: "q", Dot: impl.Dot{Rep: 1, Seq: 1}, Time: 2, Val: 2},
			{Obj: "r", Dot: impl.Dot{}, Time: 3},
			{Obj: "r", Dot: impl.Dot{Rep: 0, Seq: 1}, Ref: impl.Dot{Rep: 9, Seq: 9}},
			{Obj: "r", Dot: impl.Dot{}, Time: 4},
		},
	}
}

func TestTallyAt(t *testing.T) {
	for _, row := range []struct {
		s    impl.State
		obj  string
		rep  int
		want int
	}{
		{someState(), "c", 0, 7},
		{someState(), "c", 1, 0},
		{someState(), "c", 2, 0},
		{someState(), "d", 1, 999999},
		{someState(), "d", 0, 0},
		{someState(), "d", 2, 0},
		{someState(), "m", 0, 0},
		{someState(), "", 0, 0},
		{someState(), "ca", 0, 0},
		{someState(), "C", 0, 0},
		{someState(), "c", -1, 0},
		{someState(), "c", impl.Reps, 0},
		{someState(), "d", math.MaxInt, 0},
		{impl.StateNew(), "c", 0, 0},
		{impl.State{}, "", 0, 0},
		{unrightState(), "d", 7, -4},
		{unrightState(), "c", 1, 5},
		{unrightState(), "c", 0, math.MaxInt},
		{unrightState(), "", -1, 8},
		{unrightState(), "", 0, 0},
		{unrightState(), "d", 0, 0},
		{manyParts(121, 0, 0), "ea", 0, 120},
		{manyParts(120, 0, 0), "dj", 2, 119},
	} {
		before := ownState(row.s)
		if got := impl.TallyAt(row.s, row.obj, row.rep); got != row.want {
			t.Errorf("TallyAt(%q, %d) = %d, not %d", row.obj, row.rep, got, row.want)
		}
		if !reflect.DeepEqual(ownState(row.s), before) {
			t.Error("TallyAt wrote into its argument")
		}
	}
}

func TestLivesOf(t *testing.T) {
	for _, row := range []struct {
		s        impl.State
		isMap    bool
		obj, key string
		places   []int
	}{
		{someState(), true, "m", "x", []int{0, 3}},
		{someState(), false, "m", "x", []int{1}},
		{someState(), true, "m", "y", []int{2}},
		{someState(), false, "m", "y", nil},
		{someState(), false, "s", "abcdefgh", []int{4}},
		{someState(), true, "s", "abcdefgh", nil},
		{someState(), false, "s", "abcdefg", nil},
		{someState(), true, "m", "", nil},
		{someState(), true, "", "x", nil},
		{someState(), true, "x", "m", nil},
		{someState(), true, "mx", "", nil},
		{impl.StateNew(), true, "m", "x", nil},
		{impl.State{}, false, "", "", nil},
		{unrightState(), true, "m", "x", []int{0, 2, 4}},
		{unrightState(), false, "m", "x", []int{1, 5}},
		{unrightState(), true, "", "", []int{3}},
		{unrightState(), false, "", "", nil},
	} {
		var want []impl.Live
		for _, i := range row.places {
			want = append(want, row.s.Lives[i])
		}
		before := ownState(row.s)
		got := impl.LivesOf(row.s, row.isMap, row.obj, row.key)
		if !slices.Equal(got, want) {
			t.Errorf("LivesOf(%v, %q, %q) = %+v", row.isMap, row.obj, row.key, got)
		}
		if !reflect.DeepEqual(ownState(row.s), before) {
			t.Error("LivesOf wrote into its argument")
		}
	}
	for _, many := range []int{120, 121} {
		if s := manyParts(0, many, 0); !slices.Equal(impl.LivesOf(s, true, "m", "k"), s.Lives) {
			t.Errorf("LivesOf %d alike are others", many)
		}
	}
}

func TestCellAt(t *testing.T) {
	s := someState()
	for i, c := range s.Cells {
		if got := impl.CellAt(s, c.Dot); got != i {
			t.Errorf("CellAt(%v) = %d, not %d", c.Dot, got, i)
		}
	}
	for _, row := range []struct {
		s    impl.State
		d    impl.Dot
		want int
	}{
		{someState(), impl.Dot{}, -1},
		{someState(), impl.Dot{Rep: 0, Seq: 2}, -1},
		{someState(), impl.Dot{Rep: 0, Seq: 5}, -1},
		{someState(), impl.Dot{Rep: 1, Seq: 4}, -1},
		{someState(), impl.Dot{Rep: 5, Seq: 1}, -1},
		{someState(), impl.Dot{Rep: -1, Seq: -1}, -1},
		{someState(), impl.Dot{Rep: math.MaxInt, Seq: math.MinInt}, -1},
		{impl.StateNew(), impl.Dot{Rep: 0, Seq: 1}, -1},
		{impl.State{}, impl.Dot{}, -1},
		{unrightState(), impl.Dot{Rep: 5, Seq: -5}, 0},
		{unrightState(), impl.Dot{Rep: 1, Seq: 1}, 1},
		{unrightState(), impl.Dot{}, 3},
		{unrightState(), impl.Dot{Rep: 0, Seq: 1}, 4},
		{unrightState(), impl.Dot{Rep: 9, Seq: 9}, -1},
		{manyParts(0, 0, 121), impl.Dot{Rep: 2, Seq: 121}, 120},
	} {
		before := ownState(row.s)
		if got := impl.CellAt(row.s, row.d); got != row.want {
			t.Errorf("CellAt(%v) = %d, not %d", row.d, got, row.want)
		}
		if !reflect.DeepEqual(ownState(row.s), before) {
			t.Error("CellAt wrote into its argument")
		}
	}
}

func TestLivesAreNewMemory(t *testing.T) {
	s := someState()
	// Texts of one byte may stand in memory that all of the program has; these are longer.
	obj, key := strings.Repeat("ma", 3), strings.Repeat("ky", 3)
	for i := range s.Lives {
		s.Lives[i].Obj, s.Lives[i].Key = obj, key
	}
	before := ownState(s)
	got := impl.LivesOf(s, true, obj, key)
	for _, l := range got {
		for _, text := range []string{l.Obj, l.Key} {
			if sharesMemory(text, obj) || sharesMemory(text, key) {
				t.Error("a text of LivesOf stands in an argument")
			}
		}
	}
	got = append(got, impl.Live{Obj: "behind"})
	for i := range got {
		got[i] = impl.Live{Obj: "z", Val: 77}
	}
	if !reflect.DeepEqual(s, before) {
		t.Errorf("a write into LivesOf came to the state: %+v", s)
	}
	all := changedState(s, func(s *impl.State) {
		for i := range s.Lives {
			s.Lives[i].Map = true
		}
	})
	first := impl.LivesOf(all, true, obj, key)
	first[0].Val = 99
	if second := impl.LivesOf(all, true, obj, key); second[0].Val != 3 || all.Lives[0].Val != 3 {
		t.Error("a write into LivesOf came to a later one")
	}
}
