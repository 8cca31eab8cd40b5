package tests

import (
	"math"
	"math/rand"
	"reflect"
	"slices"
	"strconv"
	"strings"
	"testing"

	"loop.example/g00463/impl"
)

func count(obj string, val int) impl.Edit {
	return impl.Edit{Kind: impl.AcCount, Obj: obj, Val: val}
}

func keyEdit(kind int, obj, key string, val int) impl.Edit {
	return impl.Edit{Kind: kind, Obj: obj, Key: key, Val: val}
}

func ins(obj string, place, val int) impl.Edit {
	return impl.Edit{Kind: impl.AcIns, Obj: obj, Val: val, Place: place}
}

func cut(obj string, place int) impl.Edit {
	return impl.Edit{Kind: impl.AcCut, Obj: obj, Place: place}
}

// editsByKind has one edit of each kind; each becomes an act of someState.
func editsByKind() []impl.Edit {
	return []impl.Edit{
		count("c", 5),
		keyEdit(impl.AcAdd, "s", "k", 0),
		keyEdit(impl.AcDel, "m", "x", 0),
		keyEdit(impl.AcPut, "m", "x", 8),
		keyEdit(impl.AcDrop, "m", "y", 0),
		ins("r", 2, 6),
		cut("r", 1),
	}
}

// wantActOf asks for the act and the code, and that neither the call nor a write into its answer comes to the state or to a later answer.
func wantActOf(t *testing.T, name string, s impl.State, rep, time int, e impl.Edit, want impl.Act, code int) {
	t.Helper()
	s = roomyState(s)
	before := whole(s)
	for range 2 {
		got, told := impl.ActOf(s, rep, time, e)
		if told != code || !impl.SameAct(got, want) {
			t.Errorf("%s: ActOf(%d, %d, %+v) = %+v, %d, not %+v, %d", name, rep, time, e, got, told, want, code)
		}
		if told == 0 && !impl.ActOk(got) {
			t.Errorf("%s: ActOf(%d, %d, %+v) = %+v, which is not right", name, rep, time, e, got)
		}
		for i := range got.Knew[:cap(got.Knew)] {
			got.Knew[:cap(got.Knew)][i] = 77
		}
		if !reflect.DeepEqual(whole(s), before) {
			t.Errorf("%s: the state was written into: %+v", name, whole(s))
		}
	}
}

// wantNoActOf asks for the zero value beside the code.
func wantNoActOf(t *testing.T, name string, s impl.State, rep, time int, e impl.Edit, code int) {
	t.Helper()
	wantActOf(t, name, s, rep, time, e, impl.Act{}, code)
}

// plainActOf goes by the words of the document, with no helper of the program but StateOk and EditOk, and reads rows by plainRow.
func plainActOf(s impl.State, rep, time int, e impl.Edit) (impl.Act, int) {
	if !impl.StateOk(s) || !impl.EditOk(e) || rep < 0 || rep > 2 || time < 1 || time > 10000 || s.Know[rep] >= 1000 {
		return impl.Act{}, impl.EdForm
	}
	a := impl.Act{Dot: dot(rep, s.Know[rep]+1), Time: time, Knew: slices.Clone(s.Know), Kind: e.Kind, Obj: e.Obj, Key: e.Key, Val: e.Val}
	at := -1
	switch e.Kind {
	case impl.AcIns:
		at = e.Place - 1
	case impl.AcCut:
		at = e.Place
	}
	if at < 0 {
		return a, 0
	}
	for _, c := range plainRow(s.Cells, e.Obj) {
		if c.Gone {
			continue
		}
		if at == 0 {
			a.Ref = c.Dot
			return a, 0
		}
		at--
	}
	return impl.Act{}, impl.EdNone
}

// wantedReading is what is to be read behind an edit that is later than all that is there.
func wantedReading(r reading, e impl.Edit) reading {
	without := func(list []string) []string {
		return slices.DeleteFunc(slices.Clone(list), func(key string) bool { return key == e.Key })
	}
	with := func(list []string) []string {
		list = append(without(list), e.Key)
		slices.Sort(list)
		return list
	}
	switch e.Kind {
	case impl.AcCount:
		r.count = (r.count + e.Val) % 1000000
	case impl.AcAdd:
		r.set = with(r.set)
	case impl.AcDel:
		r.set = without(r.set)
	case impl.AcPut:
		r.keys, r.vals = with(r.keys), []int{e.Val}
	case impl.AcDrop:
		r.keys, r.vals = without(r.keys), nil
	case impl.AcIns:
		r.row = slices.Insert(slices.Clone(r.row), e.Place, e.Val)
	case impl.AcCut:
		r.row = slices.Delete(slices.Clone(r.row), e.Place, e.Place+1)
	}
	r.dots = nil
	return r
}

// done is the state behind an edit that must become an act and be done, with the next time; what is read then must be what was wanted, of this object and of others.
func done(t *testing.T, s impl.State, rep int, e impl.Edit, others ...string) impl.State {
	t.Helper()
	a, code := impl.ActOf(s, rep, impl.TimeOf(s)+1, e)
	if code != 0 {
		t.Fatalf("ActOf(%d, %+v) told %d", rep, e, code)
	}
	next, code := impl.DoAct(s, a)
	if code != 0 {
		t.Fatalf("DoAct(%+v) told %d", a, code)
	}
	want := wantedReading(readOnce(s, e.Obj, e.Key), e)
	got := readOnce(next, e.Obj, e.Key)
	got.dots = nil
	if !got.same(want) {
		t.Errorf("behind %+v %q is read as\n%+v\nnot\n%+v", e, e.Obj, got, want)
	}
	for _, obj := range others {
		if before, behind := readOnce(s, obj, e.Key), readOnce(next, obj, e.Key); obj != e.Obj && !before.same(behind) {
			t.Errorf("%+v turned %q: %+v, then %+v", e, obj, before, behind)
		}
	}
	return next
}

func TestCodeOfNoPlace(t *testing.T) {
	if impl.EdNone != 5 {
		t.Errorf("EdNone = %d", impl.EdNone)
	}
}

// plainlyRightEdit is for an Obj that is known to be right or wrong, and keys that are "", "k", "abcdefgh", or no names.
func plainlyRightEdit(e impl.Edit, objRight bool) bool {
	name := e.Key == "k" || e.Key == "abcdefgh"
	within := e.Val >= 0 && e.Val <= 999999
	if !objRight {
		return false
	}
	switch e.Kind {
	case 1:
		return e.Key == "" && within && e.Place == 0
	case 2, 3, 5:
		return name && e.Val == 0 && e.Place == 0
	case 4:
		return name && within && e.Place == 0
	case 6:
		return e.Key == "" && within && e.Place >= 0
	case 7:
		return e.Key == "" && e.Val == 0 && e.Place >= 0
	}
	return false
}

func TestEditOkOfAllAboutTheLimits(t *testing.T) {
	kinds := []int{math.MinInt, -1, 0, 1, 2, 3, 4, 5, 6, 7, 8, 9, 257, 1<<32 + 1, math.MaxInt}
	keys := append([]string{"k", "abcdefgh"}, wrongNames()...)
	vals := []int{math.MinInt, -1, 0, 1, impl.MaxVal, impl.MaxVal + 1, math.MaxInt}
	places := []int{math.MinInt, -2, -1, 0, 1, 2, impl.MostParts, impl.MostParts + 1, 1 << 32, math.MaxInt}
	right := 0
	for _, kind := range kinds {
		for _, key := range keys {
			for _, val := range vals {
				for _, place := range places {
					for _, obj := range []string{"o", "abcdefgh", "abcdefghi", ""} {
						e := impl.Edit{Kind: kind, Obj: obj, Key: key, Val: val, Place: place}
						want := plainlyRightEdit(e, len(obj) > 0 && len(obj) < 9)
						if got := impl.EditOk(e); got != want {
							t.Fatalf("EditOk(%+v) = %v", e, got)
						}
						if want {
							right++
						}
					}
				}
			}
		}
	}
	if right == 0 {
		t.Error("none was right")
	}
}

func TestEditOkWithOneFieldWrong(t *testing.T) {
	for _, e := range editsByKind() {
		if !impl.EditOk(e) {
			t.Errorf("EditOk(%+v) = false", e)
		}
		wrong := func(change func(e *impl.Edit)) {
			t.Helper()
			made := e
			change(&made)
			if impl.EditOk(made) {
				t.Errorf("EditOk(%+v) = true", made)
			}
			wantNoActOf(t, "an edit with one field wrong", someState(), 0, 20, made, impl.EdForm)
		}
		for _, kind := range []int{0, lastKind + 1, -1, -e.Kind, e.Kind + 256, e.Kind + 1<<32, math.MaxInt, math.MinInt} {
			wrong(func(e *impl.Edit) { e.Kind = kind })
		}
		for _, name := range wrongNames() {
			wrong(func(e *impl.Edit) { e.Obj = name })
			if name != "" || e.Key != "" {
				wrong(func(e *impl.Edit) { e.Key = name })
			}
		}
		if e.Key == "" {
			wrong(func(e *impl.Edit) { e.Key = "k" })
		}
		for _, val := range []int{-1, impl.MaxVal + 1, math.MaxInt, math.MinInt} {
			wrong(func(e *impl.Edit) { e.Val = val })
		}
		switch e.Kind {
		case impl.AcAdd, impl.AcDel, impl.AcDrop, impl.AcCut:
			wrong(func(e *impl.Edit) { e.Val = 1 })
			wrong(func(e *impl.Edit) { e.Val = impl.MaxVal })
		}
		wrong(func(e *impl.Edit) { e.Place = -1 })
		wrong(func(e *impl.Edit) { e.Place = math.MinInt })
		if e.Kind < impl.AcIns {
			wrong(func(e *impl.Edit) { e.Place = 1 })
			wrong(func(e *impl.Edit) { e.Place = math.MaxInt })
		}
	}
	if impl.EditOk(impl.Edit{}) {
		t.Error("an edit of nothing is right")
	}
}

// The acts of someState, written out by hand; the row "r" is 1, 2, 0, and of "q" the first one by dot is gone.
func TestEditsBecomeActs(t *testing.T) {
	s := someState()
	for _, row := range []struct {
		name string
		rep  int
		time int
		edit impl.Edit
		want impl.Act
	}{
		{"count", 0, 20, count("c", 5), impl.Act{Dot: dot(0, 10), Kind: impl.AcCount, Obj: "c", Val: 5}},
		{"count nothing", 1, 20, count("new", 0), impl.Act{Dot: dot(1, 6), Kind: impl.AcCount, Obj: "new"}},
		{"count most", 2, 20, count("c", 999999), impl.Act{Dot: dot(2, 5), Kind: impl.AcCount, Obj: "c", Val: 999999}},
		{"add", 1, 1, keyEdit(impl.AcAdd, "s", "k", 0), impl.Act{Dot: dot(1, 6), Kind: impl.AcAdd, Obj: "s", Key: "k"}},
		{"delete", 2, 10000, keyEdit(impl.AcDel, "m", "x", 0), impl.Act{Dot: dot(2, 5), Kind: impl.AcDel, Obj: "m", Key: "x"}},
		{"delete what is not there", 2, 3, keyEdit(impl.AcDel, "none", "x", 0), impl.Act{Dot: dot(2, 5), Kind: impl.AcDel, Obj: "none", Key: "x"}},
		{"put", 0, 20, keyEdit(impl.AcPut, "m", "x", 999999), impl.Act{Dot: dot(0, 10), Kind: impl.AcPut, Obj: "m", Key: "x", Val: 999999}},
		{"put nought", 0, 20, keyEdit(impl.AcPut, "m", "x", 0), impl.Act{Dot: dot(0, 10), Kind: impl.AcPut, Obj: "m", Key: "x"}},
		{"drop", 1, 20, keyEdit(impl.AcDrop, "m", "y", 0), impl.Act{Dot: dot(1, 6), Kind: impl.AcDrop, Obj: "m", Key: "y"}},
		{"insert at the beginning", 1, 20, ins("r", 0, 6), impl.Act{Dot: dot(1, 6), Kind: impl.AcIns, Obj: "r", Val: 6}},
		{"insert behind the first", 1, 20, ins("r", 1, 0), impl.Act{Dot: dot(1, 6), Kind: impl.AcIns, Obj: "r", Ref: dot(0, 4)}},
		{"insert behind the second", 2, 20, ins("r", 2, 999999), impl.Act{Dot: dot(2, 5), Kind: impl.AcIns, Obj: "r", Val: 999999, Ref: dot(1, 5)}},
		{"insert behind the last", 0, 20, ins("r", 3, 6), impl.Act{Dot: dot(0, 10), Kind: impl.AcIns, Obj: "r", Val: 6, Ref: dot(0, 9)}},
		{"insert into what is not there", 0, 20, ins("new", 0, 6), impl.Act{Dot: dot(0, 10), Kind: impl.AcIns, Obj: "new", Val: 6}},
		{"insert behind one beside a gone one", 0, 10000, ins("q", 1, 6), impl.Act{Dot: dot(0, 10), Kind: impl.AcIns, Obj: "q", Val: 6, Ref: dot(2, 2)}},
		{"cut the first", 0, 20, cut("r", 0), impl.Act{Dot: dot(0, 10), Kind: impl.AcCut, Obj: "r", Ref: dot(0, 4)}},
		{"cut one between", 1, 1, cut("r", 1), impl.Act{Dot: dot(1, 6), Kind: impl.AcCut, Obj: "r", Ref: dot(1, 5)}},
		{"cut the last", 2, 20, cut("r", 2), impl.Act{Dot: dot(2, 5), Kind: impl.AcCut, Obj: "r", Ref: dot(0, 9)}},
		{"cut beside a gone one", 2, 20, cut("q", 0), impl.Act{Dot: dot(2, 5), Kind: impl.AcCut, Obj: "q", Ref: dot(2, 2)}},
	} {
		row.want.Time, row.want.Knew = row.time, []int{9, 5, 4}
		wantActOf(t, row.name, s, row.rep, row.time, row.edit, row.want, 0)
	}
}

// A life of one object of each kind and others beside it, from nothing on; what is read in the end is written out by hand.
func TestWhatOneWantsIsRead(t *testing.T) {
	s := impl.StateNew()
	for i, e := range []impl.Edit{
		count("o", 999999), count("o", 3), count("p", 0), count("p", 40),
		keyEdit(impl.AcAdd, "o", "k", 0), keyEdit(impl.AcAdd, "o", "j", 0), keyEdit(impl.AcAdd, "o", "k", 0), keyEdit(impl.AcAdd, "o", "l", 0),
		keyEdit(impl.AcDel, "o", "k", 0), keyEdit(impl.AcDel, "p", "k", 0),
		keyEdit(impl.AcPut, "o", "k", 7), keyEdit(impl.AcPut, "o", "k", 0), keyEdit(impl.AcPut, "o", "j", 999999), keyEdit(impl.AcPut, "p", "j", 1),
		keyEdit(impl.AcDrop, "o", "k", 0), keyEdit(impl.AcPut, "o", "i", 4), keyEdit(impl.AcDrop, "p", "k", 0),
		ins("o", 0, 5), ins("o", 0, 3), ins("o", 1, 4), ins("o", 3, 6), ins("p", 0, 9), ins("o", 0, 2), ins("o", 5, 999999), ins("o", 3, 0),
		cut("o", 0), cut("o", 2), cut("o", 4), ins("o", 2, 8), cut("p", 0),
	} {
		s = done(t, s, i%impl.Reps, e, "o", "p", "k")
	}
	want := readOnce(s, "o", "j")
	want.dots = nil
	if hand := (reading{count: 2, set: []string{"j", "l"}, vals: []int{999999}, keys: []string{"i", "j"}, row: []int{3, 4, 8, 5, 6}}); !want.same(hand) {
		t.Errorf("in the end it is read as\n%+v\nnot\n%+v", want, hand)
	}
}

// goneRows are all choices of gone cells of one row, beside another row that no place counts.
func goneRows() []impl.State {
	other := cell(2, 9, 9, impl.Dot{})
	other.Obj = "q"
	s := cells(
		cell(0, 1, 1, impl.Dot{}), cell(1, 1, 2, dot(0, 1)), cell(2, 1, 3, dot(1, 1)),
		cell(0, 2, 4, impl.Dot{}), cell(1, 2, 5, dot(0, 1)), cell(2, 2, 2, dot(0, 1)), other,
	)
	s.Know = []int{2, 2, 9}
	var out []impl.State
	for gone := range 1 << 6 {
		out = append(out, changedState(s, func(s *impl.State) {
			for i := range 6 {
				s.Cells[i].Gone = gone>>i&1 == 1
			}
		}))
	}
	return out
}

func TestPlacesCountWhatIsRead(t *testing.T) {
	for i, s := range goneRows() {
		row := impl.RowOf(s, "r")
		rep := i % impl.Reps
		for place := range len(row) + 1 {
			next := done(t, s, rep, ins("r", place, 77), "q")
			if got := impl.RowOf(next, "r"); len(got) != len(row)+1 || got[place] != 77 {
				t.Errorf("77 at %d of %v: %v", place, row, got)
			}
		}
		for place := range row {
			next := done(t, s, rep, cut("r", place), "q")
			if got := impl.RowOf(next, "r"); len(got) != len(row)-1 || slices.Contains(got, row[place]) {
				t.Errorf("%v without that at %d: %v", row, place, got)
			}
		}
		for _, over := range []int{1, 2, 6, 7, impl.MostParts, math.MaxInt - len(row)} {
			wantNoActOf(t, "behind more than there are", s, rep, 50, ins("r", len(row)+over, 1), impl.EdNone)
			wantNoActOf(t, "one more than the last", s, rep, 50, cut("r", len(row)+over-1), impl.EdNone)
		}
		wantNoActOf(t, "the greatest place", s, rep, 50, cut("r", math.MaxInt), impl.EdNone)
	}
}

func TestPlacesOfEmptyRows(t *testing.T) {
	allGone := goneRows()[1<<6-1]
	for name, s := range map[string]impl.State{"nothing": impl.StateNew(), "all gone": allGone, "no such row": cells()} {
		s = changedState(s, func(s *impl.State) { s.Know[1] = min(s.Know[1], 5) })
		if row := impl.RowOf(s, "r"); len(row) != 0 {
			t.Fatalf("%s: %v", name, row)
		}
		done(t, s, 1, ins("r", 0, 3), "q")
		wantNoActOf(t, name, s, 1, 50, ins("r", 1, 3), impl.EdNone)
		wantNoActOf(t, name, s, 1, 50, cut("r", 0), impl.EdNone)
		wantNoActOf(t, name, s, 1, 50, cut("r", 1), impl.EdNone)
	}
}

func TestTimesOfEdits(t *testing.T) {
	s := someState()
	for _, e := range editsByKind() {
		for _, time := range []int{1, 2, lastTime - 1, lastTime} {
			want, _ := plainActOf(s, 2, time, e)
			want.Time = time
			wantActOf(t, "a time", s, 2, time, e, want, 0)
		}
		for _, time := range []int{0, -1, lastTime + 1, math.MaxInt, math.MinInt} {
			wantNoActOf(t, "a time that is none", s, 2, time, e, impl.EdForm)
		}
	}
}

func TestRepsOfEdits(t *testing.T) {
	s := someState()
	for _, e := range editsByKind() {
		for rep, seq := range []int{10, 6, 5} {
			want, _ := plainActOf(s, rep, 20, e)
			want.Dot = dot(rep, seq)
			wantActOf(t, "a replica", s, rep, 20, e, want, 0)
		}
		for _, rep := range []int{-1, impl.Reps, impl.Reps + 1, -impl.Reps, math.MaxInt, math.MinInt} {
			wantNoActOf(t, "a replica that is none", s, rep, 20, e, impl.EdForm)
		}
	}
}

func TestValsOfEdits(t *testing.T) {
	for _, val := range []int{0, 1, impl.MaxVal} {
		for _, e := range []impl.Edit{count("c", val), keyEdit(impl.AcPut, "m", "x", val), ins("r", 1, val)} {
			s := changedState(someState(), func(s *impl.State) { s.Cells[4].Time = 12 })
			done(t, s, 1, e, "c", "m", "r", "q")
		}
	}
	for _, val := range []int{-1, impl.MaxVal + 1} {
		for _, e := range []impl.Edit{count("c", val), keyEdit(impl.AcPut, "m", "x", val), ins("r", 1, val)} {
			wantNoActOf(t, "a Val that is none", someState(), 1, 20, e, impl.EdForm)
		}
	}
}

func TestNoDotIsLeft(t *testing.T) {
	for rep := range impl.Reps {
		last := changedState(someState(), func(s *impl.State) { s.Know[rep] = impl.MaxSeq - 1 })
		over := changedState(someState(), func(s *impl.State) { s.Know[rep] = impl.MaxSeq })
		wantState(t, "at its limit", over, true)
		for _, e := range editsByKind() {
			want, _ := plainActOf(last, rep, 20, e)
			want.Dot = dot(rep, impl.MaxSeq)
			wantActOf(t, "the last dot", last, rep, 20, e, want, 0)
			if _, code := impl.DoAct(last, want); code != 0 {
				t.Errorf("the last dot of %d: DoAct(%+v) told %d", rep, want, code)
			}
			wantNoActOf(t, "no dot is left", over, rep, 20, e, impl.EdForm)
			for other := range impl.Reps {
				if other == rep {
					continue
				}
				want, _ := plainActOf(over, other, 20, e)
				wantActOf(t, "another one has dots left", over, other, 20, e, want, 0)
			}
		}
	}
}

// An act is right whatever the time of its Ref; it is DoAct that refuses what is not behind it in time.
func TestTimesNotAboveThatOfTheCellAhead(t *testing.T) {
	s := someState()
	for _, row := range []struct {
		place, time, code int
	}{
		{1, 5, impl.EdForm}, {1, 4, impl.EdForm}, {1, 1, impl.EdForm}, {1, 6, 0},
		{2, 8, impl.EdForm}, {2, 7, impl.EdForm}, {2, 9, 0},
		{3, 9, impl.EdForm}, {3, 1, impl.EdForm}, {3, 10, 0}, {3, lastTime, 0},
		{0, 1, 0}, {0, 5, 0}, {0, lastTime, 0},
	} {
		e := ins("r", row.place, 6)
		want, _ := plainActOf(s, 0, row.time, e)
		wantActOf(t, "about the time of its Ref", s, 0, row.time, e, want, 0)
		a, _ := impl.ActOf(s, 0, row.time, e)
		next, code := impl.DoAct(s, a)
		if code != row.code {
			t.Errorf("DoAct behind %d at %d told %d, not %d", row.place, row.time, code, row.code)
		}
		if code != 0 && !impl.SameState(next, s) {
			t.Errorf("what was refused behind %d at %d left %+v", row.place, row.time, next)
		}
	}
	last := ins("q", 1, 6)
	a, code := impl.ActOf(s, 0, lastTime, last)
	if _, refused := impl.DoAct(s, a); code != 0 || refused != impl.EdForm {
		t.Errorf("behind the latest time ActOf told %d, DoAct %d", code, refused)
	}
	for place := range 3 {
		a, code := impl.ActOf(s, 0, 1, cut("r", place))
		if _, refused := impl.DoAct(s, a); code != 0 || refused != 0 {
			t.Errorf("cut at a time ahead of all: ActOf told %d, DoAct %d", code, refused)
		}
	}
}

// What is put at the beginning at a time that is not the latest is read behind those that are later.
func TestInsertsAtTheBeginningByTime(t *testing.T) {
	s := cells(cell(0, 1, 4, impl.Dot{}), cell(0, 2, 8, impl.Dot{}))
	s.Know = []int{2, 0, 0}
	for _, row := range []struct {
		time int
		want []int
	}{
		{1, []int{2, 1, 77}}, {3, []int{2, 1, 77}}, {4, []int{2, 77, 1}}, {7, []int{2, 77, 1}}, {8, []int{77, 2, 1}}, {9, []int{77, 2, 1}},
	} {
		a, code := impl.ActOf(s, 1, row.time, ins("r", 0, 77))
		next, told := impl.DoAct(s, a)
		if got := impl.RowOf(next, "r"); code != 0 || told != 0 || !slices.Equal(got, row.want) {
			t.Errorf("at %d: %v, codes %d and %d, not %v", row.time, got, code, told, row.want)
		}
	}
}

// A full state gives acts as any other; it is DoAct that finds no room.
func TestEditsOfFullStates(t *testing.T) {
	most := impl.MostParts
	for _, row := range []struct {
		s    impl.State
		edit impl.Edit
	}{
		{manyParts(most, 0, 0), count("new", 1)},
		{manyParts(0, most, 0), keyEdit(impl.AcAdd, "s", "k", 0)},
		{manyParts(0, most, 0), keyEdit(impl.AcPut, "m", "other", 1)},
		{manyParts(0, 0, most), ins("r", 0, 1)},
		{manyParts(0, 0, most), ins("r", most, 1)},
	} {
		row.s.Know[2] = 500
		want, _ := plainActOf(row.s, 2, 500, row.edit)
		wantActOf(t, "full", row.s, 2, 500, row.edit, want, 0)
		if _, code := impl.DoAct(row.s, want); code != impl.EdFull {
			t.Errorf("%+v of a full state told %d", row.edit, code)
		}
	}
	full := changedState(manyParts(0, 0, most), func(s *impl.State) { s.Know[2] = 500 })
	for _, place := range []int{0, 1, most / 2, most - 1} {
		done(t, full, 2, cut("r", place))
	}
	wantNoActOf(t, "cut behind the last", full, 2, 500, cut("r", most), impl.EdNone)
	wantNoActOf(t, "insert behind one more", full, 2, 500, ins("r", most+1, 1), impl.EdNone)
}

func TestCodesOfEditsInOrder(t *testing.T) {
	s := someState()
	full := changedState(s, func(s *impl.State) { s.Know[1] = impl.MaxSeq })
	wrong := changedState(s, func(s *impl.State) { s.Know[2] = 3 })
	for _, row := range []struct {
		name string
		s    impl.State
		rep  int
		time int
		edit impl.Edit
		code int
	}{
		{"no place", s, 1, 20, ins("r", 4, 1), impl.EdNone},
		{"no place to cut", s, 1, 20, cut("r", 3), impl.EdNone},
		{"no place in a row that is not there", s, 1, 20, cut("c", 0), impl.EdNone},
		{"no place beside a gone one", s, 1, 20, cut("q", 1), impl.EdNone},
		{"no place, not later than any Ref", s, 1, 1, ins("r", 4, 1), impl.EdNone},
		{"no place, wrong state", wrong, 1, 20, ins("r", 4, 1), impl.EdForm},
		{"no place, wrong state, cut", wrong, 1, 20, cut("r", 3), impl.EdForm},
		{"no place, wrong Obj", s, 1, 20, cut("R", 3), impl.EdForm},
		{"no place, wrong Key", s, 1, 20, impl.Edit{Kind: impl.AcCut, Obj: "r", Key: "k", Place: 3}, impl.EdForm},
		{"no place, wrong Val", s, 1, 20, ins("r", 4, impl.MaxVal+1), impl.EdForm},
		{"no place, a Val of a cut", s, 1, 20, impl.Edit{Kind: impl.AcCut, Obj: "r", Val: 1, Place: 3}, impl.EdForm},
		{"no place, as it is below 0", s, 1, 20, cut("r", -1), impl.EdForm},
		{"no place, as it is below 0, insert", s, 1, 20, ins("r", -1, 1), impl.EdForm},
		{"no place, no replica", s, 3, 20, cut("r", 3), impl.EdForm},
		{"no place, no replica below 0", s, -1, 20, ins("r", 4, 1), impl.EdForm},
		{"no place, time 0", s, 1, 0, cut("r", 3), impl.EdForm},
		{"no place, time too late", s, 1, lastTime + 1, ins("r", 4, 1), impl.EdForm},
		{"no place, no dot left", full, 1, 20, cut("r", 3), impl.EdForm},
		{"no place, no dot left, insert", full, 1, 20, ins("r", 4, 1), impl.EdForm},
		{"no place, dots left of this one", full, 2, 20, cut("r", 3), impl.EdNone},
		{"all wrong", impl.State{}, -1, 0, impl.Edit{Place: -1}, impl.EdForm},
	} {
		wantNoActOf(t, row.name, row.s, row.rep, row.time, row.edit, row.code)
	}
}

func TestEditsOfWrongStates(t *testing.T) {
	all := wrongRows()
	for i, s := range wrongStates() {
		all["wrong state "+strconv.Itoa(i)] = s
	}
	for name, s := range all {
		for _, e := range append(editsByKind(), ins("r", 0, 1), cut("r", 0), cut("r", 900), impl.Edit{}) {
			for rep := range impl.Reps {
				wantNoActOf(t, name, s, rep, 20, e, impl.EdForm)
			}
		}
	}
}

func TestTimeOf(t *testing.T) {
	none := impl.Dot{}
	timed := func(times ...int) impl.State {
		var s impl.State
		for i, time := range times {
			s.Cells = append(s.Cells, cell(0, i+1, time, none))
		}
		return s
	}
	for _, row := range []struct {
		s    impl.State
		want int
	}{
		{impl.StateNew(), 0},
		{impl.State{}, 0},
		{manyParts(3, 3, 0), 0},
		{timed(1), 1}, {timed(lastTime), lastTime}, {timed(7), 7},
		{timed(1, 2, 3), 3}, {timed(3, 2, 1), 3}, {timed(2, 9, 4), 9}, {timed(10, 9, 8, 9), 10}, {timed(5, 5), 5},
		{someState(), 10000},
		{changedState(someState(), func(s *impl.State) { s.Cells[4].Time = 3 }), 9},
		{changedState(someState(), func(s *impl.State) { s.Cells[4].Gone = true }), 10000},
		{manyParts(0, 0, impl.MostParts), impl.MostParts},
		// States that are not right tell what stands there.
		{unrightState(), 4},
		{timed(-5), -5}, {timed(-5, -3, -9), -3}, {timed(0), 0}, {timed(-1, 0), 0},
		{timed(math.MinInt), math.MinInt}, {timed(math.MinInt, math.MaxInt, 3), math.MaxInt}, {timed(lastTime+1, 2), lastTime + 1},
	} {
		s := roomyState(row.s)
		// The room behind a list is no part of it.
		s.Cells = append(s.Cells, impl.Cell{Time: math.MaxInt})[:len(s.Cells)]
		before := whole(s)
		if got := impl.TimeOf(s); got != row.want {
			t.Errorf("TimeOf(%+v) = %d, not %d", row.s.Cells, got, row.want)
		}
		if !reflect.DeepEqual(whole(s), before) {
			t.Errorf("TimeOf wrote into %+v", row.s.Cells)
		}
	}
}

func TestActsOfEditsAreNewMemory(t *testing.T) {
	// Texts of one byte may stand in memory that all of the program has; these are longer.
	obj, key := strings.Repeat("ma", 3), strings.Repeat("ky", 3)
	for kind := impl.AcAdd; kind <= impl.AcDrop; kind++ {
		a, code := impl.ActOf(someState(), 0, 20, keyEdit(kind, obj, key, 0))
		if code != 0 || a.Obj != obj || a.Key != key {
			t.Errorf("ActOf = %+v, %d", a, code)
		}
		if sharesMemory(a.Obj, obj) || sharesMemory(a.Key, key) {
			t.Error("a text of an act stands in an argument")
		}
	}
	s := cells(impl.Cell{Obj: obj, Dot: dot(0, 1), Time: 1})
	s.Know = []int{1, 1, 1}
	for _, e := range []impl.Edit{count(obj, 1), ins(obj, 1, 3), cut(obj, 0)} {
		a, code := impl.ActOf(s, 2, 20, e)
		if code != 0 || sharesMemory(a.Obj, obj) {
			t.Errorf("ActOf(%+v) told %d, or its text stands in an argument", e, code)
		}
		a.Knew[0], a.Knew[2] = 900, 900
		if !slices.Equal(s.Know, []int{1, 1, 1}) {
			t.Errorf("a write into Knew came to the state: %v", s.Know)
		}
	}
}

// drawnEdit is one of a few objects, at places about the end of its row, sometimes wrong.
func drawnEdit(r *rand.Rand, s impl.State) impl.Edit {
	e := impl.Edit{Kind: 1 + r.Intn(7), Obj: string(rune('a' + r.Intn(2)))}
	switch e.Kind {
	case impl.AcAdd, impl.AcDel, impl.AcPut, impl.AcDrop:
		e.Key = string(rune('j' + r.Intn(3)))
	case impl.AcIns, impl.AcCut:
		e.Place = r.Intn(len(impl.RowOf(s, e.Obj)) + 3)
	}
	switch e.Kind {
	case impl.AcCount, impl.AcPut, impl.AcIns:
		e.Val = []int{0, 1, 999999, r.Intn(1000000)}[r.Intn(4)]
	}
	switch r.Intn(20) {
	case 0:
		e.Kind = r.Intn(10)
	case 1:
		e.Place--
	case 2:
		e.Val += 999999
	}
	return e
}

func TestDrawnEdits(t *testing.T) {
	codes := map[int]int{}
	for seed := range int64(40) {
		r := rand.New(rand.NewSource(seed))
		states := []impl.State{impl.StateNew(), impl.StateNew(), impl.StateNew()}
		var acts []impl.Act
		for range 120 {
			rep := r.Intn(impl.Reps)
			s := states[rep]
			e, time := drawnEdit(r, s), r.Intn(50)
			want, code := plainActOf(s, rep, time, e)
			wantActOf(t, "drawn", s, rep, time, e, want, code)
			codes[code]++
			if _, code := impl.ActOf(s, rep, impl.TimeOf(s)+1, e); code == 0 {
				a, _ := impl.ActOf(s, rep, impl.TimeOf(s)+1, e)
				states[rep] = done(t, s, rep, e, "a", "b")
				acts = append(acts, a)
			}
			if len(acts) > 0 {
				to := r.Intn(impl.Reps)
				states[to], _ = impl.DoAct(states[to], acts[r.Intn(len(acts))])
			}
		}
	}
	for _, code := range []int{0, impl.EdForm, impl.EdNone} {
		if codes[code] < 100 {
			t.Errorf("code %d was told %d times alone", code, codes[code])
		}
	}
}

// A place is that of the one who wants it: what another one did beside it turns neither what is cut nor what is put behind.
func TestPlacesAreMeantByWhoeverWantsThem(t *testing.T) {
	s := impl.StateNew()
	for i, val := range []int{1, 2, 3} {
		s = done(t, s, 0, ins("r", i, val))
	}
	cutAct, _ := impl.ActOf(s, 1, 10, cut("r", 1))
	insAct, _ := impl.ActOf(s, 2, 10, ins("r", 2, 9))
	first, _ := impl.ActOf(s, 0, 10, ins("r", 0, 8))
	ordersOf([]impl.Act{cutAct, insAct, first}, func(order []impl.Act) {
		got, codes := impl.DoAll(s, order)
		if row := impl.RowOf(got, "r"); !slices.Equal(codes, []int{0, 0, 0}) || !slices.Equal(row, []int{8, 1, 9, 3}) {
			t.Errorf("three beside each other: %v, codes %v", row, codes)
		}
	})
}
