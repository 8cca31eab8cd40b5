package tests

import (
	"math"
	"math/rand"
	"reflect"
	"slices"
	"sort"
	"strconv"
	"strings"
	"testing"

	"loop.example/g00463/impl"
)

// someDelta has some of each of its parts, and a Cell behind one that is none of its own.
func someDelta() impl.Delta {
	return impl.Delta{
		Base: []int{3, 1, 2},
		Know: []int{9, 5, 4},
		Tallies: []impl.Tally{
			{Obj: "c", Rep: 0, Sum: 7},
			{Obj: "c", Rep: 2, Sum: 0},
			{Obj: "d", Rep: 1, Sum: 999999},
		},
		Lives: []impl.Live{
			{Map: true, Obj: "m", Key: "x", Val: 3, Dot: dot(0, 5)},
			{Map: false, Obj: "m", Key: "x", Dot: dot(0, 7)},
			{Map: true, Obj: "m", Key: "y", Val: 0, Dot: dot(1, 2)},
			{Map: false, Obj: "s", Key: "abcdefgh", Dot: dot(2, 4)},
		},
		Dead: []impl.Dot{dot(0, 1), dot(0, 3), dot(1, 1), dot(2, 2)},
		Cells: []impl.Cell{
			{Obj: "r", Dot: dot(0, 4), Time: 5, Val: 1},
			{Obj: "q", Dot: dot(0, 6), Time: 2, Val: 999999, Gone: true},
			{Obj: "r", Dot: dot(0, 9), Time: 9, Ref: dot(1, 5)},
			{Obj: "r", Dot: dot(1, 5), Time: 8, Ref: dot(0, 2), Val: 2},
			{Obj: "q", Dot: dot(2, 1), Time: 10000, Val: 5, Gone: true},
		},
	}
}

// someTaker is a state that someDelta can be done to, and someTaken what comes of it.
func someTaker() impl.State {
	return impl.State{
		Know: []int{5, 1, 8},
		Tallies: []impl.Tally{
			{Obj: "a", Rep: 0, Sum: 1},
			{Obj: "c", Rep: 0, Sum: 2},
			{Obj: "c", Rep: 1, Sum: 3},
			{Obj: "c", Rep: 2, Sum: 4},
			{Obj: "e", Rep: 2, Sum: 5},
		},
		Lives: []impl.Live{
			{Map: true, Obj: "m", Key: "x", Val: 1, Dot: dot(0, 1)},
			{Map: true, Obj: "m", Key: "w", Val: 2, Dot: dot(0, 2)},
			{Map: true, Obj: "m", Key: "x", Val: 9, Dot: dot(0, 4)},
			{Map: true, Obj: "m", Key: "x", Val: 3, Dot: dot(0, 5)},
			{Map: false, Obj: "s", Key: "k", Dot: dot(2, 2)},
			{Map: false, Obj: "s", Key: "k", Dot: dot(2, 3)},
			{Map: false, Obj: "s", Key: "k", Dot: dot(2, 5)},
		},
		Cells: []impl.Cell{
			{Obj: "r", Dot: dot(0, 2), Time: 3, Val: 8},
			{Obj: "q", Dot: dot(2, 1), Time: 10000, Val: 5},
			{Obj: "q", Dot: dot(2, 7), Time: 4, Val: 6, Gone: true},
		},
	}
}

func someTaken() impl.State {
	return impl.State{
		Know: []int{9, 5, 8},
		Tallies: []impl.Tally{
			{Obj: "c", Rep: 0, Sum: 7},
			{Obj: "c", Rep: 2, Sum: 4},
			{Obj: "d", Rep: 1, Sum: 999999},
			{Obj: "e", Rep: 2, Sum: 5},
		},
		Lives: []impl.Live{
			{Map: true, Obj: "m", Key: "w", Val: 2, Dot: dot(0, 2)},
			{Map: true, Obj: "m", Key: "x", Val: 3, Dot: dot(0, 5)},
			{Map: false, Obj: "m", Key: "x", Dot: dot(0, 7)},
			{Map: true, Obj: "m", Key: "y", Dot: dot(1, 2)},
			{Map: false, Obj: "s", Key: "k", Dot: dot(2, 5)},
		},
		Cells: []impl.Cell{
			{Obj: "r", Dot: dot(0, 2), Time: 3, Val: 8},
			{Obj: "r", Dot: dot(0, 4), Time: 5, Val: 1},
			{Obj: "q", Dot: dot(0, 6), Time: 2, Val: 999999, Gone: true},
			{Obj: "r", Dot: dot(0, 9), Time: 9, Ref: dot(1, 5)},
			{Obj: "r", Dot: dot(1, 5), Time: 8, Ref: dot(0, 2), Val: 2},
			{Obj: "q", Dot: dot(2, 1), Time: 10000, Val: 5, Gone: true},
			{Obj: "q", Dot: dot(2, 7), Time: 4, Val: 6, Gone: true},
		},
	}
}

// partsOfDelta are those of its lists that a state has, too.
func partsOfDelta(d impl.Delta) impl.State {
	return impl.State{Know: d.Know, Tallies: d.Tallies, Lives: d.Lives, Cells: d.Cells}
}

func deltaOfParts(base []int, s impl.State, dead ...impl.Dot) impl.Delta {
	return impl.Delta{Base: base, Know: s.Know, Tallies: s.Tallies, Lives: s.Lives, Dead: dead, Cells: s.Cells}
}

func ownDelta(d impl.Delta) impl.Delta {
	return deltaOfParts(append([]int{}, d.Base...), ownState(partsOfDelta(d)), append([]impl.Dot{}, d.Dead...)...)
}

func changedDelta(d impl.Delta, change func(d *impl.Delta)) impl.Delta {
	d = ownDelta(d)
	change(&d)
	return d
}

func roomyDelta(d impl.Delta) impl.Delta {
	own := deltaOfParts(append(slices.Clone(d.Base), -7, -8)[:len(d.Base)], roomyState(partsOfDelta(d)))
	own.Dead = append(slices.Clone(d.Dead), dot(-7, -7), dot(-8, -8))[:len(d.Dead)]
	return own
}

func wholeDelta(d impl.Delta) impl.Delta {
	return ownDelta(deltaOfParts(d.Base[:cap(d.Base)], whole(partsOfDelta(d)), d.Dead[:cap(d.Dead)]...))
}

func writeOverDelta(d impl.Delta) {
	for i := range d.Base[:cap(d.Base)] {
		d.Base[:cap(d.Base)][i] = 77
	}
	for i := range d.Dead[:cap(d.Dead)] {
		d.Dead[:cap(d.Dead)][i] = dot(77, 77)
	}
	writeOver(partsOfDelta(d))
}

func sameDelta(a, b impl.Delta) bool {
	return slices.Equal(a.Base, b.Base) && slices.Equal(a.Dead, b.Dead) && impl.SameState(partsOfDelta(a), partsOfDelta(b))
}

func wantDeltaOk(t *testing.T, name string, d impl.Delta, want bool) {
	t.Helper()
	d = roomyDelta(d)
	before := wholeDelta(d)
	if got := impl.DeltaOk(d); got != want {
		t.Errorf("%s: DeltaOk = %v of %+v", name, got, d)
	}
	if !reflect.DeepEqual(wholeDelta(d), before) {
		t.Errorf("%s: DeltaOk wrote into its argument: %+v", name, wholeDelta(d))
	}
}

// wantDelta asks for what changed, which must be right, and that neither the call nor a write into its answer comes to p, to c or to a later answer.
func wantDelta(t *testing.T, name string, p, c impl.State, want impl.Delta) {
	t.Helper()
	p, c, want = roomyState(p), roomyState(c), ownDelta(want)
	pBefore, cBefore := whole(p), whole(c)
	for range 2 {
		got, ok := impl.DeltaOf(p, c)
		if !ok || !sameDelta(got, want) {
			t.Errorf("%s: DeltaOf is %v\n%+v\nnot\n%+v\nof\n%+v\nand\n%+v", name, ok, got, want, p, c)
		}
		wantDeltaOk(t, name, got, ok)
		for i := range got.Base[:cap(got.Base)] {
			got.Base[:cap(got.Base)][i] = 77
		}
		if !slices.Equal(got.Know, want.Know) {
			t.Errorf("%s: Base and Know share memory", name)
		}
		writeOverDelta(got)
		if !reflect.DeepEqual(whole(p), pBefore) || !reflect.DeepEqual(whole(c), cBefore) {
			t.Fatalf("%s: a state was written into:\n%+v\n%+v", name, whole(p), whole(c))
		}
	}
}

func wantNoDelta(t *testing.T, name string, p, c impl.State) {
	t.Helper()
	p, c = roomyState(p), roomyState(c)
	pBefore, cBefore := whole(p), whole(c)
	if got, ok := impl.DeltaOf(p, c); ok || !sameDelta(got, impl.Delta{}) {
		t.Errorf("%s: DeltaOf is %v, %+v, of\n%+v\nand\n%+v", name, ok, got, p, c)
	}
	if !reflect.DeepEqual(whole(p), pBefore) || !reflect.DeepEqual(whole(c), cBefore) {
		t.Errorf("%s: a state was written into:\n%+v\n%+v", name, whole(p), whole(c))
	}
}

// wantTaken asks for the state and the code, and that neither the call nor a write into its answer comes to the state or the Delta.
func wantTaken(t *testing.T, name string, s impl.State, d impl.Delta, want impl.State, code int) {
	t.Helper()
	s, d, want = roomyState(s), roomyDelta(d), ownState(want)
	stateBefore, deltaBefore := whole(s), wholeDelta(d)
	for range 2 {
		got, told := impl.DoDelta(s, d)
		if told != code || !impl.SameState(got, want) {
			t.Errorf("%s: DoDelta told %d, not %d:\n%+v\nnot\n%+v", name, told, code, got, want)
		}
		if impl.StateOk(s) && !impl.StateOk(got) {
			t.Errorf("%s: what was done to a right state is not right: %+v", name, got)
		}
		writeOver(got)
		if !reflect.DeepEqual(whole(s), stateBefore) || !reflect.DeepEqual(wholeDelta(d), deltaBefore) {
			t.Fatalf("%s: the state or the Delta was written into:\n%+v\n%+v", name, whole(s), wholeDelta(d))
		}
	}
}

// wantNotTaken asks for the state as it was, beside the code.
func wantNotTaken(t *testing.T, name string, s impl.State, d impl.Delta, code int) {
	t.Helper()
	wantTaken(t, name, s, d, s, code)
}

// wantBetween is for p that is behind c: what changed is what the words of the document say, and makes c of p, and of whoever knows more what MergeState makes of both.
func wantBetween(t *testing.T, name string, p, c impl.State, more ...impl.State) {
	t.Helper()
	d, ok := plainDelta(p, c)
	if !ok {
		t.Fatalf("%s: no plain Delta of\n%+v\nand\n%+v", name, p, c)
	}
	wantDelta(t, name, p, c, d)
	if slices.Equal(p.Know, c.Know) {
		wantNotTaken(t, name+", nothing new", p, d, impl.EdOld)
	} else {
		wantTaken(t, name, p, d, c, 0)
	}
	wantNotTaken(t, name+", again", c, d, impl.EdOld)
	for i, s := range more {
		want, code := plainMerge(s, c), 0
		if impl.KnowIn(c.Know, s.Know) {
			code = impl.EdOld
		}
		wantTaken(t, name+", to more "+strconv.Itoa(i), s, d, want, code)
	}
}

// plainDelta goes by the words of the document: of each part it is asked whether the other one has such a part, and what it knows.
func plainDelta(p, c impl.State) (impl.Delta, bool) {
	if !impl.StateOk(p) || !impl.StateOk(c) || !impl.SameState(plainMerge(p, c), c) {
		return impl.Delta{}, false
	}
	d := impl.Delta{Base: p.Know, Know: c.Know}
	for _, x := range c.Tallies {
		if c.Know[x.Rep] > p.Know[x.Rep] {
			d.Tallies = append(d.Tallies, x)
		}
	}
	for _, x := range c.Lives {
		if x.Dot.Seq > p.Know[x.Dot.Rep] {
			d.Lives = append(d.Lives, x)
		}
	}
	for _, x := range p.Lives {
		if !slices.Contains(c.Lives, x) {
			d.Dead = append(d.Dead, x.Dot)
		}
	}
	for _, x := range c.Cells {
		there := x
		there.Gone = false
		if !slices.Contains(p.Cells, x) && (x.Gone || !slices.Contains(p.Cells, there)) {
			d.Cells = append(d.Cells, x)
		}
	}
	return ownDelta(d), true
}

// plainlyRightDelta leaves names and numbers to StateOk, which is asked part by part.
func plainlyRightDelta(d impl.Delta) bool {
	if len(d.Base) != 3 || len(d.Know) != 3 {
		return false
	}
	for rep := range 3 {
		if d.Base[rep] < 0 || d.Base[rep] > d.Know[rep] || d.Know[rep] > 1000 {
			return false
		}
	}
	if len(d.Tallies) > 120 || len(d.Lives) > 120 || len(d.Dead) > 120 || len(d.Cells) > 120 {
		return false
	}
	if !impl.StateOk(impl.State{Know: d.Know, Tallies: d.Tallies}) || !impl.StateOk(impl.State{Know: d.Know, Lives: d.Lives}) {
		return false
	}
	for _, l := range d.Lives {
		if l.Dot.Seq <= d.Base[l.Dot.Rep] {
			return false
		}
	}
	for i, x := range d.Dead {
		if x.Rep < 0 || x.Rep > 2 || x.Seq < 1 || x.Seq > d.Base[x.Rep] || i > 0 && !dotLess(d.Dead[i-1], x) {
			return false
		}
	}
	bare := slices.Clone(d.Cells)
	for i, c := range d.Cells {
		bare[i].Ref = impl.Dot{}
		if r := c.Ref; r != (impl.Dot{}) && (r.Rep < 0 || r.Rep > 2 || r.Seq < 1 || r.Seq > 1000) {
			return false
		}
	}
	return impl.StateOk(impl.State{Know: d.Know, Cells: bare})
}

// plainlyTaken goes by the words of the document, part by part, and sorts what is left.
func plainlyTaken(s impl.State, d impl.Delta) (impl.State, int) {
	s = ownState(s)
	if !impl.StateOk(s) || !plainlyRightDelta(d) {
		return s, 3
	}
	old, early := true, false
	next := impl.State{}
	for rep := range 3 {
		old = old && d.Know[rep] <= s.Know[rep]
		early = early || d.Base[rep] > s.Know[rep]
		next.Know = append(next.Know, max(d.Know[rep], s.Know[rep]))
		owner := s.Tallies
		if d.Know[rep] > s.Know[rep] {
			owner = d.Tallies
		}
		for _, x := range owner {
			if x.Rep == rep {
				next.Tallies = append(next.Tallies, x)
			}
		}
	}
	if old {
		return s, 1
	}
	if early {
		return s, 2
	}
	for _, l := range s.Lives {
		between := l.Dot.Seq > d.Base[l.Dot.Rep] && l.Dot.Seq <= d.Know[l.Dot.Rep]
		if !slices.Contains(d.Dead, l.Dot) && (!between || slices.Contains(d.Lives, l)) {
			next.Lives = append(next.Lives, l)
		}
	}
	for _, l := range d.Lives {
		if l.Dot.Seq > s.Know[l.Dot.Rep] {
			next.Lives = append(next.Lives, l)
		}
	}
	next.Cells = append(next.Cells, s.Cells...)
	for _, c := range d.Cells {
		if at := impl.CellAt(s, c.Dot); at >= 0 {
			next.Cells[at].Gone = next.Cells[at].Gone || c.Gone
		} else {
			next.Cells = append(next.Cells, c)
		}
	}
	if len(next.Tallies) > 120 || len(next.Lives) > 120 || len(next.Cells) > 120 {
		return s, 4
	}
	sort.Slice(next.Tallies, func(i, j int) bool {
		x, y := next.Tallies[i], next.Tallies[j]
		return x.Obj < y.Obj || x.Obj == y.Obj && x.Rep < y.Rep
	})
	if next = sortedParts(next); !impl.StateOk(next) {
		return s, 3
	}
	return next, 0
}

func TestSomeDelta(t *testing.T) {
	d, s := someDelta(), someTaker()
	wantDeltaOk(t, "some of each", d, true)
	wantTaken(t, "some of each", s, d, someTaken(), 0)
	if want, code := plainlyTaken(s, d); code != 0 || !impl.SameState(want, someTaken()) {
		t.Errorf("plainlyTaken told %d: %+v", code, want)
	}
	wantNotTaken(t, "again", someTaken(), d, impl.EdOld)
	for _, empty := range []func(d *impl.Delta){
		func(d *impl.Delta) { d.Tallies = nil },
		func(d *impl.Delta) { d.Lives = nil },
		func(d *impl.Delta) { d.Dead = nil },
		func(d *impl.Delta) { d.Cells = nil },
		func(d *impl.Delta) { d.Tallies, d.Lives, d.Dead, d.Cells = nil, nil, nil, nil },
		func(d *impl.Delta) {
			d.Tallies, d.Lives, d.Dead, d.Cells = []impl.Tally{}, []impl.Live{}, []impl.Dot{}, []impl.Cell{}
		},
	} {
		less := changedDelta(d, empty)
		wantDeltaOk(t, "without a list", less, true)
		want, code := plainlyTaken(s, less)
		if code != 0 {
			t.Errorf("plainlyTaken told %d", code)
		}
		wantTaken(t, "without a list", s, less, want, 0)
	}
}

func TestWhatChangedBehindActsOfAllKinds(t *testing.T) {
	base, gone := parting(t)
	for i, c := range gone {
		var more, behind []impl.State
		for j, other := range gone {
			more = append(more, other, impl.MergeState(c, other))
			behind = append(behind, impl.MergeState(c, other))
			wantBetween(t, "one went on, two became one", base, impl.MergeState(c, other), append(gone, base)...)
			wantBetween(t, "another one came", c, impl.MergeState(c, other), impl.MergeState(c, gone[(j+1)%3]), c)
			if i != j {
				wantNoDelta(t, "two that parted", c, other)
				wantNoDelta(t, "one less", impl.MergeState(c, other), c)
			}
		}
		wantBetween(t, "one went on", base, c, append(more, base)...)
		wantBetween(t, "all of it", impl.StateNew(), c, append(more, base, impl.StateNew())...)
		wantBetween(t, "itself", c, c, behind...)
		wantNoDelta(t, "turned round", c, base)
	}
	// What the first one did, written out by hand.
	wantDelta(t, "by hand", base, gone[0], impl.Delta{
		Base:    []int{12, 1, 0},
		Know:    []int{20, 1, 0},
		Tallies: []impl.Tally{{Obj: "c", Rep: 0, Sum: 3}, {Obj: "d", Rep: 0, Sum: 1}},
		Lives:   []impl.Live{{Obj: "s", Key: "k", Dot: dot(0, 16)}, {Map: true, Obj: "m", Key: "x", Val: 4, Dot: dot(0, 17)}},
		Dead:    []impl.Dot{dot(0, 2), dot(0, 5), dot(0, 6)},
		Cells: []impl.Cell{
			{Obj: "r", Dot: dot(0, 9), Time: 2, Ref: dot(0, 8), Val: 20, Gone: true},
			{Obj: "r", Dot: dot(0, 19), Time: 5, Ref: dot(0, 8), Val: 11},
		},
	})
}

// Each kind of act alone: what it did is all that there is in what changed.
func TestWhatOneActChanged(t *testing.T) {
	base, _ := parting(t)
	for _, row := range []struct {
		name string
		edit impl.Edit
		want impl.Delta
	}{
		{"count", count("c", 9), impl.Delta{Tallies: []impl.Tally{{Obj: "c", Rep: 2, Sum: 9}}}},
		{"add", keyEdit(impl.AcAdd, "s", "k", 0), impl.Delta{Lives: []impl.Live{{Obj: "s", Key: "k", Dot: dot(2, 1)}}}},
		{"delete", keyEdit(impl.AcDel, "s", "k", 0), impl.Delta{Dead: []impl.Dot{dot(0, 3)}}},
		{"delete nothing", keyEdit(impl.AcDel, "s", "z", 0), impl.Delta{}},
		{"put", keyEdit(impl.AcPut, "m", "x", 8), impl.Delta{Lives: []impl.Live{{Map: true, Obj: "m", Key: "x", Val: 8, Dot: dot(2, 1)}}, Dead: []impl.Dot{dot(0, 5)}}},
		{"put a new one", keyEdit(impl.AcPut, "m", "n", 8), impl.Delta{Lives: []impl.Live{{Map: true, Obj: "m", Key: "n", Val: 8, Dot: dot(2, 1)}}}},
		{"drop", keyEdit(impl.AcDrop, "m", "z", 0), impl.Delta{Dead: []impl.Dot{dot(0, 7)}}},
		{"insert", ins("r", 1, 15), impl.Delta{Cells: []impl.Cell{{Obj: "r", Dot: dot(2, 1), Time: 5, Ref: dot(0, 8), Val: 15}}}},
		{"insert at the beginning", ins("n", 0, 15), impl.Delta{Cells: []impl.Cell{{Obj: "n", Dot: dot(2, 1), Time: 5, Val: 15}}}},
		{"cut", cut("r", 1), impl.Delta{Cells: []impl.Cell{{Obj: "r", Dot: dot(0, 9), Time: 2, Ref: dot(0, 8), Val: 20, Gone: true}}}},
	} {
		c := done(t, base, 2, row.edit)
		row.want.Base, row.want.Know = []int{12, 1, 0}, []int{12, 1, 1}
		wantDelta(t, row.name, base, c, row.want)
		beside := done(t, base, 1, row.edit)
		wantBetween(t, row.name, base, c, beside, impl.MergeState(c, beside), goesOn(t, c, 2, row.edit), goesOn(t, c, 0, count("c", 1)))
	}
}

// A Live that is new and gone again between both states stands nowhere in what changed; whoever has it has it no more behind it.
func TestLivesThatCameAndWent(t *testing.T) {
	for _, row := range []struct {
		name       string
		come, gone impl.Edit
		lives      []impl.Live
	}{
		{"added and deleted", keyEdit(impl.AcAdd, "o", "k", 0), keyEdit(impl.AcDel, "o", "k", 0), nil},
		{"put and dropped", keyEdit(impl.AcPut, "o", "k", 5), keyEdit(impl.AcDrop, "o", "k", 0), nil},
		{"put and put", keyEdit(impl.AcPut, "o", "k", 5), keyEdit(impl.AcPut, "o", "k", 6), []impl.Live{{Map: true, Obj: "o", Key: "k", Val: 6, Dot: dot(2, 2)}}},
		{"put and put alike", keyEdit(impl.AcPut, "o", "k", 5), keyEdit(impl.AcPut, "o", "k", 5), []impl.Live{{Map: true, Obj: "o", Key: "k", Val: 5, Dot: dot(2, 2)}}},
	} {
		base, others := parting(t)
		came := done(t, base, 2, row.come)
		went := done(t, came, 2, row.gone)
		wantDelta(t, row.name, base, went, impl.Delta{Base: base.Know, Know: went.Know, Lives: row.lives})
		if came.Lives[len(came.Lives)-1].Dot != dot(2, 1) {
			t.Fatalf("%s: %+v", row.name, came.Lives)
		}
		hears := impl.MergeState(others[1], came)
		wantBetween(t, row.name, base, went, came, hears, goesOn(t, hears, 0, count("c", 1)), others[0])
		wantBetween(t, row.name+", the last act alone", came, went, hears)
	}
}

// What d's Know knows, its Base does not, and is none of its Lives is gone, whatever the state knows beside it.
func TestLivesByWhoKnowsThem(t *testing.T) {
	for rep := range impl.Reps {
		at := func(n int) []int {
			k := []int{7, 7, 7}
			k[rep] = n
			return k
		}
		all := func(n int) []int { return []int{n, n, n} }
		for _, row := range []struct {
			name       string
			base, know int
			seq        int
			there      bool
		}{
			{"known by Base", 5, 8, 4, true},
			{"just known by Base", 5, 8, 5, true},
			{"just not known by Base", 5, 8, 6, false},
			{"known by Know", 5, 8, 7, false},
			{"just known by Know", 5, 8, 8, false},
			{"just not known by Know", 5, 8, 9, true},
			{"Base is 0", 0, 8, 1, false},
			{"Base and Know are 0", 0, 0, 1, true},
			{"Know is 1000", 0, 1000, 1000, false},
			{"Base and Know are 1000", 1000, 1000, 1000, true},
			{"Base and Know alike", 8, 8, 8, true},
			{"Base and Know alike and less", 8, 8, 9, true},
		} {
			l := liveAt(true, 3, rep, row.seq)
			s := ofLives(all(1000), l)
			other := (rep + 1) % impl.Reps
			s.Know[other] = 20
			d := impl.Delta{Base: at(row.base), Know: at(row.know)}
			d.Know[other] = 21
			want := changedState(s, func(s *impl.State) { s.Know[other] = 21 })
			if !row.there {
				want.Lives = nil
			}
			wantTaken(t, row.name, s, d, want, 0)
			if row.there {
				continue
			}
			// It is one of d's Lives.
			d.Lives = []impl.Live{l}
			want.Lives = []impl.Live{l}
			wantTaken(t, row.name+", one of d's", s, d, want, 0)
			// It is gone from s, which knows it.
			wantTaken(t, row.name+", gone from s", changedState(s, func(s *impl.State) { s.Lives = nil }), d, changedState(want, func(s *impl.State) { s.Lives = nil }), 0)
		}
	}
}

// A Live of the Dot of one of d's that is not the same is none of d's Lives, and d's own is known.
func TestUnlikeLivesOfOneDotInADelta(t *testing.T) {
	l := liveAt(true, 3, 1, 2)
	for name, change := range map[string]func(l *impl.Live){
		"Val": func(l *impl.Live) { l.Val = 4 },
		"Obj": func(l *impl.Live) { l.Obj = "n" },
		"Key": func(l *impl.Live) { l.Key = "l" },
		"Map": func(l *impl.Live) { l.Map, l.Val = false, 0 },
	} {
		other := l
		change(&other)
		d := impl.Delta{Base: []int{0, 1, 0}, Know: []int{1, 2, 0}, Lives: []impl.Live{l}}
		wantTaken(t, name, ofLives([]int{0, 2, 0}, other), d, ofLives([]int{1, 2, 0}), 0)
		wantTaken(t, name+", alike", ofLives([]int{0, 2, 0}, l), d, ofLives([]int{1, 2, 0}, l), 0)
	}
}

func TestDeadAreNoLivesAnyMore(t *testing.T) {
	s := ofLives([]int{9, 9, 9}, liveAt(true, 1, 0, 2), liveAt(false, 0, 0, 3), liveAt(true, 1, 1, 2), liveAt(true, 1, 2, 9))
	for _, row := range []struct {
		name string
		dead []impl.Dot
		want []impl.Live
	}{
		{"none", nil, s.Lives},
		{"the first one", []impl.Dot{dot(0, 2)}, s.Lives[1:]},
		{"the last one", []impl.Dot{dot(2, 9)}, s.Lives[:3]},
		{"of a set", []impl.Dot{dot(0, 3)}, []impl.Live{s.Lives[0], s.Lives[2], s.Lives[3]}},
		{"two", []impl.Dot{dot(0, 2), dot(1, 2)}, []impl.Live{s.Lives[1], s.Lives[3]}},
		{"all", []impl.Dot{dot(0, 2), dot(0, 3), dot(1, 2), dot(2, 9)}, nil},
		{"others", []impl.Dot{dot(0, 1), dot(0, 4), dot(1, 3), dot(2, 2)}, s.Lives},
		{"some, and others", []impl.Dot{dot(0, 1), dot(0, 3), dot(0, 9), dot(1, 1), dot(1, 2)}, []impl.Live{s.Lives[0], s.Lives[3]}},
	} {
		d := impl.Delta{Base: []int{9, 9, 9}, Know: []int{10, 9, 9}, Dead: row.dead}
		wantTaken(t, row.name, s, d, ofLives([]int{10, 9, 9}, row.want...), 0)
	}
	// The Dots of Cells are of another kind.
	row := knowing(cells(cell(0, 2, 3, impl.Dot{})), 9, 9, 9)
	d := impl.Delta{Base: []int{9, 9, 9}, Know: []int{10, 9, 9}, Dead: []impl.Dot{dot(0, 2)}}
	wantTaken(t, "a Cell of the Dot of one that is dead", row, d, knowing(row, 10, 9, 9), 0)
}

func TestTalliesOfWhomTheDeltaKnowsMore(t *testing.T) {
	ofC := func(sums ...int) []impl.Tally {
		var out []impl.Tally
		for rep, sum := range sums {
			if sum > 0 {
				out = append(out, impl.Tally{Obj: "c", Rep: rep, Sum: sum})
			}
		}
		return out
	}
	for _, row := range []struct {
		name     string
		know     []int
		have     []impl.Tally
		delta    []int
		tallies  []impl.Tally
		want     []impl.Tally
		wantKnow []int
	}{
		{"of all", []int{1, 1, 1}, ofC(1, 2, 3), []int{2, 2, 2}, ofC(4, 5, 6), ofC(4, 5, 6), []int{2, 2, 2}},
		{"of one", []int{5, 1, 5}, ofC(1, 2, 3), []int{2, 2, 2}, ofC(4, 5, 6), ofC(1, 5, 3), []int{5, 2, 5}},
		{"as much of one", []int{2, 1, 1}, ofC(1, 2, 3), []int{2, 2, 2}, ofC(4, 5, 6), ofC(1, 5, 6), []int{2, 2, 2}},
		{"none in the state", []int{1, 1, 1}, nil, []int{1, 2, 2}, ofC(4, 5, 6), ofC(0, 5, 6), []int{1, 2, 2}},
		{"none in the Delta", []int{1, 1, 1}, ofC(1, 2, 3), []int{1, 2, 1}, nil, ofC(1, 0, 3), []int{1, 2, 1}},
		{"less in the Delta", []int{1, 1, 1}, ofC(1, 2, 3), []int{2, 2, 2}, ofC(4, 0, 6), ofC(4, 0, 6), []int{2, 2, 2}},
		{"0 and 1000", []int{0, 1000, 0}, ofC(1, 2, 3), []int{1000, 0, 1}, ofC(4, 5, 6), ofC(4, 2, 6), []int{1000, 1000, 1}},
	} {
		s := impl.State{Know: row.know, Tallies: row.have}
		d := impl.Delta{Base: []int{0, 0, 0}, Know: row.delta, Tallies: row.tallies}
		wantTaken(t, row.name, s, d, impl.State{Know: row.wantKnow, Tallies: row.want}, 0)
	}
	// Whatever their Objs, they stand in order.
	s := impl.State{Know: []int{1, 1, 1}, Tallies: []impl.Tally{{Obj: "b", Rep: 1, Sum: 1}, {Obj: "d", Rep: 0, Sum: 2}, {Obj: "d", Rep: 2, Sum: 3}, {Obj: "f", Rep: 1, Sum: 4}}}
	d := impl.Delta{Base: []int{1, 0, 1}, Know: []int{2, 1, 2}, Tallies: []impl.Tally{{Obj: "", Rep: 2, Sum: 5}, {Obj: "a", Rep: 0, Sum: 6}, {Obj: "b", Rep: 1, Sum: 7}, {Obj: "d", Rep: 0, Sum: 8}, {Obj: "g", Rep: 2, Sum: 9}}}
	want := impl.State{Know: []int{2, 1, 2}, Tallies: []impl.Tally{{Obj: "", Rep: 2, Sum: 5}, {Obj: "a", Rep: 0, Sum: 6}, {Obj: "b", Rep: 1, Sum: 1}, {Obj: "d", Rep: 0, Sum: 8}, {Obj: "f", Rep: 1, Sum: 4}, {Obj: "g", Rep: 2, Sum: 9}}}
	wantTaken(t, "of some Objs", s, d, want, 0)
	// What changed has those of a Rep of which more is known, counted on or not, and of no other.
	p := impl.State{Know: []int{3, 3, 3}, Tallies: ofC(1, 2, 3)}
	for rep := range impl.Reps {
		c := changedState(p, func(s *impl.State) { s.Know[rep]++ })
		wantDelta(t, "nothing counted on", p, c, impl.Delta{Base: p.Know, Know: c.Know, Tallies: p.Tallies[rep : rep+1]})
		c.Tallies[rep].Sum = 9
		wantDelta(t, "counted on", p, c, impl.Delta{Base: p.Know, Know: c.Know, Tallies: c.Tallies[rep : rep+1]})
		wantBetween(t, "counted on", p, c, changedState(p, func(s *impl.State) { s.Know[(rep+1)%3], s.Tallies[(rep+1)%3].Sum = 8, 7 }))
		c.Tallies = slices.Delete(c.Tallies, rep, rep+1)
		wantDelta(t, "not there any more", p, c, impl.Delta{Base: p.Know, Know: c.Know})
		wantBetween(t, "not there any more", p, c)
	}
}

func TestCellsThatAreGoneInWhatChanged(t *testing.T) {
	base := []int{2, 2, 2}
	there := cell(1, 2, 3, dot(0, 1))
	ahead := cell(0, 1, 2, impl.Dot{})
	gone, aheadGone := there, ahead
	gone.Gone, aheadGone.Gone = true, true
	with := func(know int, list ...impl.Cell) impl.State { return knowing(cells(list...), know, 2, 2) }
	for _, row := range []struct {
		name          string
		p, c, changed []impl.Cell
	}{
		{"there in both", []impl.Cell{ahead, there}, []impl.Cell{ahead, there}, nil},
		{"gone in both", []impl.Cell{ahead, gone}, []impl.Cell{ahead, gone}, nil},
		{"gone now", []impl.Cell{ahead, there}, []impl.Cell{ahead, gone}, []impl.Cell{gone}},
		{"both gone now", []impl.Cell{ahead, there}, []impl.Cell{aheadGone, gone}, []impl.Cell{aheadGone, gone}},
		{"the one ahead gone now", []impl.Cell{ahead, gone}, []impl.Cell{aheadGone, gone}, []impl.Cell{aheadGone}},
		{"new", []impl.Cell{ahead}, []impl.Cell{ahead, there}, []impl.Cell{there}},
		{"new and gone", []impl.Cell{ahead}, []impl.Cell{ahead, gone}, []impl.Cell{gone}},
		{"both new", nil, []impl.Cell{ahead, gone}, []impl.Cell{ahead, gone}},
	} {
		p, c := with(2, row.p...), with(3, row.c...)
		wantDelta(t, row.name, p, c, impl.Delta{Base: base, Know: c.Know, Cells: row.changed})
		var more []impl.State
		for _, s := range []impl.State{with(2, row.c...), with(2, aheadGone, there), with(2, aheadGone, gone)} {
			if impl.Behind(p, s) {
				more = append(more, s)
			}
		}
		wantBetween(t, row.name, p, c, more...)
		// Also where nothing is known beyond p: such a Delta is old wherever it could be done.
		wantBetween(t, row.name+", no act known beyond", p, with(2, row.c...))
	}
	// What s has as Gone stays so, though d has it there.
	d := impl.Delta{Base: base, Know: []int{3, 2, 2}, Cells: []impl.Cell{ahead, there}}
	wantTaken(t, "gone in s", with(2, aheadGone, gone), d, with(3, aheadGone, gone), 0)
	wantTaken(t, "one gone in s", with(2, ahead, gone), d, with(3, ahead, gone), 0)
	wantTaken(t, "not there in s, though known", with(2), d, with(3, ahead, there), 0)
}

// Of two Cells with one Dot that of the state stays, Gone when one has it so.
func TestUnlikeCellsOfOneDotInADelta(t *testing.T) {
	first := cell(1, 2, 5, dot(0, 1))
	ahead, beside := cell(0, 1, 2, impl.Dot{}), cell(0, 2, 3, impl.Dot{})
	for name, change := range map[string]func(c *impl.Cell){
		"Time":        func(c *impl.Cell) { c.Time = 9 },
		"Val":         func(c *impl.Cell) { c.Val = 9 },
		"Ref":         func(c *impl.Cell) { c.Ref = dot(0, 2) },
		"no Ref":      func(c *impl.Cell) { c.Ref = impl.Dot{} },
		"a far Ref":   func(c *impl.Cell) { c.Ref = dot(2, 1000) },
		"Obj":         func(c *impl.Cell) { c.Obj = "q" },
		"no Ref, Obj": func(c *impl.Cell) { c.Obj, c.Ref = "q", impl.Dot{} },
		"its own Ref": func(c *impl.Cell) { c.Ref = c.Dot },
		"the least":   func(c *impl.Cell) { c.Time = 1 },
	} {
		for number := range 4 {
			mine, other := first, first
			change(&other)
			mine.Gone, other.Gone = number%2 == 1, number/2 == 1
			want := mine
			want.Gone = number > 0
			s := knowing(cells(ahead, beside, mine), 4, 4, 4)
			d := impl.Delta{Base: []int{0, 0, 0}, Know: []int{4, 4, 5}, Cells: []impl.Cell{other}}
			wantTaken(t, "unlike "+name, s, d, knowing(cells(ahead, beside, want), 4, 4, 5), 0)
		}
	}
}

func TestRefsInADelta(t *testing.T) {
	with := func(ref impl.Dot) impl.Delta {
		return impl.Delta{Base: []int{1, 1, 1}, Know: []int{5, 5, 5}, Cells: []impl.Cell{cell(1, 3, 5, ref)}}
	}
	wantDeltaOk(t, "nothing", with(impl.Dot{}), true)
	for _, ref := range []impl.Dot{dot(0, 1), dot(0, 5), dot(0, 6), dot(0, 1000), dot(1, 1), dot(1, 3), dot(2, 1), dot(2, 1000)} {
		wantDeltaOk(t, "right", with(ref), true)
	}
	for _, ref := range wrongDots() {
		wantDeltaOk(t, "wrong", with(ref), ref == impl.Dot{})
		if ref != (impl.Dot{}) {
			wantNotTaken(t, "wrong", impl.State{Know: []int{1, 1, 1}}, with(ref), impl.EdForm)
		}
	}
	// Where the Cell of a Ref is one of the Delta's, it need be no Cell that a state would have there.
	for _, ahead := range []impl.Cell{cell(0, 1, 5, impl.Dot{}), cell(0, 1, 9, impl.Dot{}), {Obj: "q", Dot: dot(0, 1), Time: 1}} {
		d := changedDelta(with(dot(0, 1)), func(d *impl.Delta) { d.Cells = append([]impl.Cell{ahead}, d.Cells...) })
		wantDeltaOk(t, "behind an unlike one", d, true)
		wantNotTaken(t, "behind an unlike one", impl.State{Know: []int{1, 1, 1}}, d, impl.EdForm)
	}
}

// The Cells that a Delta brings stand behind others of the state or of its own; what would not be right is not done.
func TestRefsOfWhatComes(t *testing.T) {
	none := impl.Dot{}
	otherRow := func(c impl.Cell) impl.Cell {
		c.Obj = "q"
		return c
	}
	know := []int{4, 4, 4}
	behind := cell(1, 2, 5, dot(0, 1))
	for _, row := range []struct {
		name  string
		state []impl.Cell
		delta []impl.Cell
		code  int
	}{
		{"nothing", nil, []impl.Cell{cell(1, 2, 5, none)}, 0},
		{"one of the state", []impl.Cell{cell(0, 1, 4, none)}, []impl.Cell{behind}, 0},
		{"one of the state of the least Time", []impl.Cell{cell(0, 1, 1, none)}, []impl.Cell{behind}, 0},
		{"one of the state of the same Time", []impl.Cell{cell(0, 1, 5, none)}, []impl.Cell{behind}, impl.EdForm},
		{"one of the state of a later Time", []impl.Cell{cell(0, 1, 6, none)}, []impl.Cell{behind}, impl.EdForm},
		{"one of the state of another Obj", []impl.Cell{otherRow(cell(0, 1, 4, none))}, []impl.Cell{behind}, impl.EdForm},
		{"none of the state", []impl.Cell{cell(0, 2, 4, none)}, []impl.Cell{behind}, impl.EdForm},
		{"nothing there", nil, []impl.Cell{behind}, impl.EdForm},
		{"one of the Delta", nil, []impl.Cell{cell(0, 1, 4, none), behind}, 0},
		{"one of the Delta of the same Time", nil, []impl.Cell{cell(0, 1, 5, none), behind}, impl.EdForm},
		{"one of the Delta of another Obj", nil, []impl.Cell{otherRow(cell(0, 1, 4, none)), behind}, impl.EdForm},
		{"itself", nil, []impl.Cell{cell(1, 2, 5, dot(1, 2))}, impl.EdForm},
		{"each other", nil, []impl.Cell{cell(0, 1, 4, dot(1, 2)), behind}, impl.EdForm},
		{"one of both, that of the state of a lesser Time", []impl.Cell{cell(0, 1, 4, none)}, []impl.Cell{cell(0, 1, 6, none), behind}, 0},
		{"one of both, that of the state of a later Time", []impl.Cell{cell(0, 1, 6, none)}, []impl.Cell{cell(0, 1, 4, none), behind}, impl.EdForm},
		{"one of both, that of the state of another Obj", []impl.Cell{otherRow(cell(0, 1, 4, none))}, []impl.Cell{cell(0, 1, 4, none), behind}, impl.EdForm},
		{"one of both, that of the Delta of another Obj", []impl.Cell{cell(0, 1, 4, none)}, []impl.Cell{otherRow(cell(0, 1, 4, none)), behind}, 0},
		{"one that the state has otherwise", []impl.Cell{cell(0, 3, 1, none), cell(1, 2, 2, dot(0, 3))}, []impl.Cell{behind}, 0},
	} {
		s := knowing(cells(row.state...), know...)
		s.Lives, s.Tallies = []impl.Live{liveAt(true, 1, 0, 1)}, []impl.Tally{{Obj: "c", Rep: 2, Sum: 4}}
		d := impl.Delta{Base: know, Know: []int{4, 4, 5}, Dead: []impl.Dot{dot(0, 1)}, Cells: row.delta}
		want, code := plainlyTaken(s, d)
		if code != row.code {
			t.Fatalf("%s: plainlyTaken told %d", row.name, code)
		}
		wantDeltaOk(t, row.name, d, true)
		wantTaken(t, row.name, s, d, want, row.code)
	}
}

// Each code in its place: of several that would fit the first one is told.
func TestCodesOfDeltas(t *testing.T) {
	most := impl.MostParts
	full := changedState(manyParts(most, most, most), func(s *impl.State) { s.Know = []int{500, 500, 500} })
	right := someTaker()
	type change = func(d *impl.Delta)
	old := func(d *impl.Delta) { d.Base, d.Know = []int{0, 0, 0}, []int{1, 1, 1} }
	early := func(d *impl.Delta) { d.Base, d.Know = []int{0, 501, 0}, []int{1, 502, 1} }
	fits := func(d *impl.Delta) { d.Base, d.Know = []int{0, 0, 0}, []int{1, 501, 1} }
	tooMany := func(d *impl.Delta) { d.Cells = append(d.Cells, cell(0, 1, 3, impl.Dot{})) }
	behindNone := func(d *impl.Delta) { d.Cells = append(d.Cells, cell(1, 1, 3, dot(2, 1000))) }
	wrong := func(d *impl.Delta) { d.Tallies = []impl.Tally{{Rep: 3}} }
	unhad := func(s *impl.State) { s.Cells = s.Cells[:most-1] }
	for _, row := range []struct {
		name    string
		state   func(s *impl.State)
		changes []change
		code    int
	}{
		{"fits", nil, []change{fits}, 0},
		{"old", nil, []change{old}, impl.EdOld},
		{"early", nil, []change{early}, impl.EdEarly},
		{"too many", nil, []change{fits, tooMany}, impl.EdFull},
		{"behind none", unhad, []change{fits, behindNone}, impl.EdForm},
		{"not right", nil, []change{fits, wrong}, impl.EdForm},
		{"old and not right", nil, []change{old, wrong}, impl.EdForm},
		{"old and too many", nil, []change{old, tooMany}, impl.EdOld},
		{"old and behind none", unhad, []change{old, behindNone}, impl.EdOld},
		{"old, too many and behind none", nil, []change{old, tooMany, behindNone}, impl.EdOld},
		{"early and not right", nil, []change{early, wrong}, impl.EdForm},
		{"early and too many", nil, []change{early, tooMany}, impl.EdEarly},
		{"early and behind none", unhad, []change{early, behindNone}, impl.EdEarly},
		{"too many and not right", nil, []change{fits, tooMany, wrong}, impl.EdForm},
		{"too many and behind none", nil, []change{fits, tooMany, behindNone}, impl.EdFull},
		{"one too many, behind none", nil, []change{fits, behindNone}, impl.EdFull},
	} {
		s := full
		if row.state != nil {
			s = changedState(full, row.state)
		}
		d := impl.Delta{}
		for _, change := range row.changes {
			change(&d)
		}
		want, code := plainlyTaken(s, d)
		if code != row.code {
			t.Fatalf("%s: plainlyTaken told %d", row.name, code)
		}
		wantTaken(t, row.name, s, d, want, row.code)
		// A state that is not right is told ahead of all.
		for _, change := range []func(s *impl.State){
			func(s *impl.State) { s.Know = s.Know[:2] },
			func(s *impl.State) { s.Tallies[0].Sum = -1 },
			func(s *impl.State) { slices.Reverse(s.Lives) },
			func(s *impl.State) { s.Cells[1].Ref = dot(2, 999) },
			func(s *impl.State) {
				s.Cells = append(s.Cells, cell(2, 400, 9, impl.Dot{}), cell(2, 401, 9, impl.Dot{}))
			},
		} {
			wantNotTaken(t, row.name+", a wrong state", changedState(s, change), d, impl.EdForm)
		}
	}
	wantNotTaken(t, "just early of the first", changedState(right, func(s *impl.State) { s.Know[0], s.Lives = 2, s.Lives[:2] }), someDelta(), impl.EdEarly)
	wantNotTaken(t, "just early of the second", knowing(impl.State{}, 9, 0, 9), someDelta(), impl.EdEarly)
	wantNotTaken(t, "just early of the last", knowing(impl.State{}, 9, 9, 1), someDelta(), impl.EdEarly)
	wantNotTaken(t, "just old", knowing(impl.State{}, 9, 5, 4), someDelta(), impl.EdOld)
	for rep := range impl.Reps {
		know := []int{9, 5, 4}
		know[rep]--
		s := knowing(cells(cell(0, 2, 3, impl.Dot{})), know...)
		want, code := plainlyTaken(s, someDelta())
		if code != 0 {
			t.Fatalf("plainlyTaken told %d", code)
		}
		wantTaken(t, "just not old", s, someDelta(), want, 0)
	}
}

func TestRoomForWhatADeltaBrings(t *testing.T) {
	most := impl.MostParts
	for _, row := range []struct{ mine, other, code int }{
		{0, most, 0}, {most, 0, 0}, {60, 60, 0}, {1, most - 1, 0}, {most - 1, 1, 0},
		{most, 1, impl.EdFull}, {1, most, impl.EdFull}, {61, 60, impl.EdFull}, {60, 61, impl.EdFull}, {most, most, impl.EdFull},
	} {
		states := []impl.State{
			{Tallies: talliesOf(0, row.mine)},
			{Lives: manyOf(1, 0, row.mine).Lives},
			{Cells: manyOf(2, 0, row.mine).Cells},
		}
		parts := []impl.State{
			{Tallies: talliesOf(1, row.other)},
			{Lives: manyOf(1, 500, row.other).Lives},
			{Cells: manyOf(2, 500, row.other).Cells},
		}
		for kind := range states {
			s := knowing(states[kind], 500, 500, 500)
			d := deltaOfParts([]int{0, 500, 0}, knowing(parts[kind], 1, 700, 1))
			want, code := plainlyTaken(s, d)
			if code != row.code {
				t.Fatalf("plainlyTaken told %d of %+v", code, row)
			}
			wantTaken(t, "many of kind "+strconv.Itoa(kind), s, d, want, row.code)
			// All else that comes is not done either.
			if row.code != 0 {
				rich := someDelta()
				s.Know, rich.Base, rich.Know = []int{500, 500, 0}, []int{0, 0, 0}, []int{0, 0, 4}
				rich.Tallies, rich.Lives, rich.Dead, rich.Cells = d.Tallies, d.Lives, nil, d.Cells
				rich.Base[1], rich.Know[1] = 500, 700
				wantNotTaken(t, "many and more of kind "+strconv.Itoa(kind), s, rich, impl.EdFull)
			}
		}
	}
	full := changedState(manyParts(most, most, most), func(s *impl.State) { s.Know[1] = 700 })
	wantBetween(t, "full of each", impl.StateNew(), full, impl.StateNew())
	d := impl.Delta{Base: []int{1000, 700, 1000}, Know: []int{1000, 701, 1000}}
	want, _ := plainlyTaken(full, d)
	if len(want.Tallies) != 80 || len(want.Lives)+len(want.Cells) != 2*most {
		t.Fatalf("plainlyTaken has %d tallies", len(want.Tallies))
	}
	wantTaken(t, "full, and nothing", full, d, want, 0)
}

// What goes makes room for what comes.
func TestRoomThatIsMade(t *testing.T) {
	most := impl.MostParts
	base, know := []int{500, 500, 500}, []int{500, 501, 500}
	lives, rows := manyOf(1, 0, most), manyOf(2, 0, most)
	next := liveAt(true, 7, 1, 501)
	d := impl.Delta{Base: base, Know: know, Lives: []impl.Live{next}}
	wantNotTaken(t, "no room", lives, d, impl.EdFull)
	d.Dead = []impl.Dot{lives.Lives[50].Dot}
	kept := slices.Delete(slices.Clone(lives.Lives), 50, 51)
	wantTaken(t, "room of one that is dead", lives, d, ofLives(know, append(kept, next)...), 0)
	d.Dead = []impl.Dot{dot(1, 400)}
	wantNotTaken(t, "one is dead that is none of them", lives, d, impl.EdFull)
	came := impl.Delta{Base: []int{500, 119, 500}, Know: know, Lives: []impl.Live{next}}
	wantTaken(t, "room of one that came and went", lives, came, ofLives(know, append(slices.Clone(lives.Lives[:most-1]), next)...), 0)
	gone := slices.Clone(rows.Cells)
	for i := range gone {
		gone[i].Gone = true
	}
	wantTaken(t, "cells that are there", rows, impl.Delta{Base: base, Know: know, Cells: gone}, impl.State{Know: know, Cells: gone}, 0)
	wantNotTaken(t, "cells that are gone, and one more", rows, impl.Delta{Base: base, Know: know, Cells: append(slices.Clone(gone[1:]), cell(1, 501, 3, impl.Dot{}))}, impl.EdFull)
	mine, others := talliesOf(1, most), talliesOf(1, most)
	for i := range others {
		others[i].Obj = "z" + others[i].Obj
	}
	wantTaken(t, "tallies in the place of others", impl.State{Know: base, Tallies: mine}, impl.Delta{Base: base, Know: know, Tallies: others}, impl.State{Know: know, Tallies: others}, 0)
	wantTaken(t, "tallies of whom no more is known", impl.State{Know: base, Tallies: mine}, impl.Delta{Base: base, Know: []int{501, 500, 500}, Tallies: others}, impl.State{Know: []int{501, 500, 500}, Tallies: mine}, 0)
}

func TestDeltaOkOfManyParts(t *testing.T) {
	most := impl.MostParts
	with := func(tallies, lives, dead, rows int) impl.Delta {
		d := deltaOfParts([]int{500, 500, 500}, impl.State{Know: []int{1000, 1000, 1000}, Tallies: talliesOf(1, tallies), Lives: manyOf(1, 500, lives).Lives, Cells: manyOf(2, 0, rows).Cells})
		for i := range dead {
			d.Dead = append(d.Dead, dot(i/50, i%50+1))
		}
		return d
	}
	for _, row := range []struct {
		tallies, lives, dead, rows int
		want                       bool
	}{
		{0, 0, 0, 0, true}, {1, 1, 1, 1, true}, {most, most, most, most, true},
		{most, 0, 0, 0, true}, {0, most, 0, 0, true}, {0, 0, most, 0, true}, {0, 0, 0, most, true},
		{most + 1, 0, 0, 0, false}, {0, most + 1, 0, 0, false}, {0, 0, most + 1, 0, false}, {0, 0, 0, most + 1, false},
		{most + 1, most, most, most, false}, {most, most + 1, most, most, false}, {most, most, most + 1, most, false}, {most, most, most, most + 1, false},
		{0, 0, 150, 0, false}, {200, 200, 140, 200, false},
	} {
		d := with(row.tallies, row.lives, row.dead, row.rows)
		wantDeltaOk(t, "many", d, row.want)
		s := knowing(impl.State{}, 500, 500, 500)
		if !row.want {
			wantNotTaken(t, "one more than most", s, d, impl.EdForm)
			continue
		}
		wantTaken(t, "most", s, d, partsOfDelta(d), 0)
	}
}

func TestDeltaOkAsksForKnowledge(t *testing.T) {
	bare := impl.Delta{Tallies: []impl.Tally{{Obj: "c"}}}
	numbers := []int{0, 1, 500, 999, 1000}
	for rep := range impl.Reps {
		for _, base := range numbers {
			for _, know := range numbers {
				d := changedDelta(bare, func(d *impl.Delta) { d.Base, d.Know = []int{5, 5, 5}, []int{5, 6, 7} })
				d.Base[rep], d.Know[rep] = base, know
				wantDeltaOk(t, "Base and Know of "+strconv.Itoa(rep), d, base <= know)
			}
		}
	}
	for _, know := range rightKnowledges() {
		wantDeltaOk(t, "alike", impl.Delta{Base: know, Know: know}, true)
		wantDeltaOk(t, "of nothing", impl.Delta{Base: []int{0, 0, 0}, Know: know}, true)
		wantDeltaOk(t, "to all", impl.Delta{Base: know, Know: []int{1000, 1000, 1000}}, true)
		wantNotTaken(t, "alike, known", impl.State{Know: know}, impl.Delta{Base: know, Know: know}, impl.EdOld)
	}
	for _, know := range wrongKnowledges() {
		for _, d := range []impl.Delta{bare, someDelta()} {
			for _, wrong := range []impl.Delta{
				changedDelta(d, func(d *impl.Delta) { d.Base, d.Know = know, []int{1000, 1000, 1000} }),
				changedDelta(d, func(d *impl.Delta) { d.Base, d.Know = []int{0, 0, 0}, know }),
				changedDelta(d, func(d *impl.Delta) { d.Base, d.Know = know, know }),
			} {
				wantDeltaOk(t, "wrong", wrong, false)
				for _, s := range []impl.State{impl.StateNew(), someTaker(), {Know: []int{1000, 1000, 1000}}} {
					wantNotTaken(t, "wrong", s, wrong, impl.EdForm)
				}
			}
		}
	}
	wantDeltaOk(t, "nothing at all", impl.Delta{}, false)
	// Alike, and not known: Base is known as little as Know.
	wantNotTaken(t, "alike, not known", impl.State{Know: []int{9, 0, 9}}, impl.Delta{Base: []int{0, 1, 0}, Know: []int{0, 1, 0}}, impl.EdEarly)
}

// wrongDeltas change one thing each of someDelta, which is then not right.
func wrongDeltas() map[string]func(d *impl.Delta) {
	all := map[string]func(d *impl.Delta){
		"Tallies out of order": func(d *impl.Delta) { slices.Reverse(d.Tallies) },
		"Lives out of order":   func(d *impl.Delta) { slices.Reverse(d.Lives) },
		"Dead out of order":    func(d *impl.Delta) { slices.Reverse(d.Dead) },
		"Cells out of order":   func(d *impl.Delta) { slices.Reverse(d.Cells) },
		"two Tallies swapped":  func(d *impl.Delta) { d.Tallies[1], d.Tallies[2] = d.Tallies[2], d.Tallies[1] },
		"two Lives swapped":    func(d *impl.Delta) { d.Lives[1], d.Lives[2] = d.Lives[2], d.Lives[1] },
		"two Dead swapped":     func(d *impl.Delta) { d.Dead[0], d.Dead[1] = d.Dead[1], d.Dead[0] },
		"the last Dead ahead":  func(d *impl.Delta) { d.Dead[2], d.Dead[3] = d.Dead[3], d.Dead[2] },
		"two Cells swapped":    func(d *impl.Delta) { d.Cells[3], d.Cells[4] = d.Cells[4], d.Cells[3] },
		"two Tallies alike":    func(d *impl.Delta) { d.Tallies = slices.Insert(d.Tallies, 1, d.Tallies[1]) },
		"two Lives alike":      func(d *impl.Delta) { d.Lives = slices.Insert(d.Lives, 1, d.Lives[1]) },
		"two Dead alike":       func(d *impl.Delta) { d.Dead = slices.Insert(d.Dead, 1, d.Dead[1]) },
		"the last Dead twice":  func(d *impl.Delta) { d.Dead = append(d.Dead, d.Dead[3]) },
		"two Cells alike":      func(d *impl.Delta) { d.Cells = slices.Insert(d.Cells, 1, d.Cells[1]) },
		"Base above Know":      func(d *impl.Delta) { d.Base[2] = 5 },
		"Rep -1":               func(d *impl.Delta) { d.Tallies[0].Rep = -1 },
		"Rep Reps":             func(d *impl.Delta) { d.Tallies[1].Rep = impl.Reps },
		"Sum -1":               func(d *impl.Delta) { d.Tallies[0].Sum = -1 },
		"Sum above MaxVal":     func(d *impl.Delta) { d.Tallies[2].Sum = impl.MaxVal + 1 },
		"Val of a set":         func(d *impl.Delta) { d.Lives[1].Val = 1 },
		"Val -1 of a Live":     func(d *impl.Delta) { d.Lives[0].Val = -1 },
		"Val of a Live":        func(d *impl.Delta) { d.Lives[0].Val = impl.MaxVal + 1 },
		"known by Base":        func(d *impl.Delta) { d.Lives[0].Dot = dot(0, 3) },
		"all known by Base":    func(d *impl.Delta) { d.Base = slices.Clone(d.Know) },
		"the last by Base":     func(d *impl.Delta) { d.Base[2] = 4 },
		"not known by Know":    func(d *impl.Delta) { d.Lives[3].Dot = dot(2, 5) },
		"less known":           func(d *impl.Delta) { d.Know[2], d.Cells = 3, d.Cells[:4] },
		"Dead not by Base":     func(d *impl.Delta) { d.Dead[1] = dot(0, 4) },
		"the last not by Base": func(d *impl.Delta) { d.Dead[3] = dot(2, 3) },
		"Dead by Know alone":   func(d *impl.Delta) { d.Base = []int{0, 0, 0} },
		"a Cell not by Know":   func(d *impl.Delta) { d.Cells[2].Dot = dot(0, 10) },
		"the last Cell":        func(d *impl.Delta) { d.Cells[4].Dot = dot(2, 5) },
		"Time 0":               func(d *impl.Delta) { d.Cells[0].Time = 0 },
		"Time 10001":           func(d *impl.Delta) { d.Cells[4].Time = lastTime + 1 },
		"Val -1 of a Cell":     func(d *impl.Delta) { d.Cells[0].Val = -1 },
		"Val of a Cell":        func(d *impl.Delta) { d.Cells[0].Val = impl.MaxVal + 1 },
		"Ref of Seq 0":         func(d *impl.Delta) { d.Cells[0].Ref = dot(1, 0) },
		"Ref of Seq 1001":      func(d *impl.Delta) { d.Cells[0].Ref = dot(0, 1001) },
		"Ref of Rep -1":        func(d *impl.Delta) { d.Cells[4].Ref = dot(-1, 1) },
		"Ref of Rep Reps":      func(d *impl.Delta) { d.Cells[3].Ref = dot(impl.Reps, 1) },
	}
	for i, wrong := range wrongDots() {
		all["Dead "+strconv.Itoa(i)] = func(d *impl.Delta) { d.Dead = []impl.Dot{wrong} }
		all["the Dot of a Live "+strconv.Itoa(i)] = func(d *impl.Delta) { d.Lives[0].Dot = wrong }
		all["the Dot of a Cell "+strconv.Itoa(i)] = func(d *impl.Delta) { d.Cells = []impl.Cell{{Obj: "r", Dot: wrong, Time: 1}} }
	}
	for _, name := range wrongNames() {
		all["Obj of a Live "+name] = func(d *impl.Delta) { d.Lives[1].Obj = name }
		all["Key of a Live "+name] = func(d *impl.Delta) { d.Lives[1].Key = name }
		all["Obj of a Cell "+name] = func(d *impl.Delta) { d.Cells[1].Obj = name }
	}
	return all
}

func TestWrongDeltas(t *testing.T) {
	for name, change := range wrongDeltas() {
		d := changedDelta(someDelta(), change)
		if plainlyRightDelta(d) {
			t.Fatalf("%s is right: %+v", name, d)
		}
		wantDeltaOk(t, name, d, false)
		for _, s := range []impl.State{someTaker(), impl.StateNew(), {Know: []int{1000, 1000, 1000}}, {}, unrightState()} {
			wantNotTaken(t, name, s, d, impl.EdForm)
		}
	}
}

// What the rule for a Delta does not bar.
func TestDeltasThatAreRight(t *testing.T) {
	for name, change := range map[string]func(d *impl.Delta){
		"no name of a Tally":          func(d *impl.Delta) { d.Tallies[0].Obj = "" },
		"any name of a Tally":         func(d *impl.Delta) { d.Tallies[2].Obj = "\xff" + strings.Repeat("Z", 50) },
		"Tallies of whom no more":     func(d *impl.Delta) { d.Base[1], d.Lives = 5, slices.Delete(d.Lives, 2, 3) },
		"just not known by Base":      func(d *impl.Delta) { d.Lives[0].Dot = dot(0, 4) },
		"just known by Know":          func(d *impl.Delta) { d.Lives[1].Dot = dot(0, 9) },
		"Dead just known by Base":     func(d *impl.Delta) { d.Dead = []impl.Dot{dot(0, 3), dot(1, 1), dot(2, 2)} },
		"Cells known by Base":         func(d *impl.Delta) { d.Cells = []impl.Cell{cell(0, 1, 1, impl.Dot{}), cell(2, 2, 1, dot(0, 9))} },
		"a Cell of the Dot of a Live": func(d *impl.Delta) { d.Cells[0].Dot = d.Lives[0].Dot },
		"a Cell of a dead Dot":        func(d *impl.Delta) { d.Cells[0].Dot = d.Dead[0] },
		"Cells that go round":         func(d *impl.Delta) { d.Cells[2].Ref, d.Cells[3].Ref = dot(1, 5), dot(0, 9) },
		"a Ref not known by Know":     func(d *impl.Delta) { d.Cells[0].Ref = dot(2, 1000) },
		"Know of all":                 func(d *impl.Delta) { d.Know = []int{1000, 1000, 1000} },
	} {
		d := changedDelta(someDelta(), change)
		if !plainlyRightDelta(d) {
			t.Fatalf("%s is not right: %+v", name, d)
		}
		wantDeltaOk(t, name, d, true)
		want, code := plainlyTaken(someTaker(), d)
		wantTaken(t, name, someTaker(), d, want, code)
	}
}

func TestDeltasOfWrongStates(t *testing.T) {
	rights := []impl.State{impl.StateNew(), someState(), someTaker(), {Know: []int{1000, 1000, 1000}}}
	for name, wrong := range allWrongStates() {
		for _, right := range rights {
			wantNoDelta(t, name+" as p", wrong, right)
			wantNoDelta(t, name+" as c", right, wrong)
		}
		wantNoDelta(t, name+" as both", wrong, wrong)
		for _, d := range []impl.Delta{{}, someDelta(), {Base: []int{0, 0, 0}, Know: []int{0, 0, 0}}, {Base: []int{0, 0, 0}, Know: []int{1000, 1000, 1000}}, {Base: []int{1000, 1000, 1000}, Know: []int{1000, 1000, 1000}}} {
			wantNotTaken(t, name, wrong, d, impl.EdForm)
		}
	}
	wantBetween(t, "nothing and nothing", impl.StateNew(), impl.StateNew())
	wantBetween(t, "nothing and some", impl.StateNew(), someState(), someState())
	wantBetween(t, "some and itself", someState(), someState())
}

// Both are right, but the first is not behind the second.
func TestNoDeltaOfTwoBesideEachOther(t *testing.T) {
	some := someState()
	for name, change := range map[string]func(s *impl.State){
		"knows less":              func(s *impl.State) { s.Know[0], s.Cells = 8, slices.Delete(s.Cells, 2, 3) },
		"knows more and less":     func(s *impl.State) { s.Know[0], s.Know[1], s.Cells = 8, 6, slices.Delete(s.Cells, 2, 3) },
		"a Live that came back":   func(s *impl.State) { s.Lives = slices.Insert(s.Lives, 2, liveAt(true, 1, 0, 9)) },
		"a Live that is unlike":   func(s *impl.State) { s.Lives[0].Val, s.Know[1] = 9, 9 },
		"a Cell that came back":   func(s *impl.State) { s.Cells[1].Gone, s.Know[1] = false, 9 },
		"a Cell less":             func(s *impl.State) { s.Cells, s.Know[1] = s.Cells[:4], 9 },
		"a Cell that is unlike":   func(s *impl.State) { s.Cells[4].Val, s.Know[2] = 9, 9 },
		"a Sum more of who is as": func(s *impl.State) { s.Tallies[0].Sum, s.Know[1] = 8, 9 },
		"a Tally less":            func(s *impl.State) { s.Tallies, s.Know[1] = s.Tallies[1:], 9 },
	} {
		other := changedState(some, change)
		wantState(t, name, other, true)
		wantNoDelta(t, name, some, other)
	}
	for name, change := range map[string]func(s *impl.State){
		"knows more":        func(s *impl.State) { s.Know[1]++ },
		"a Live less":       func(s *impl.State) { s.Know[1], s.Lives = 6, s.Lives[1:] },
		"a Live more":       func(s *impl.State) { s.Know[2], s.Lives = 5, append(s.Lives, liveAt(true, 1, 2, 5)) },
		"a Cell gone":       func(s *impl.State) { s.Know[2], s.Cells[0].Gone = 5, true },
		"a Cell more":       func(s *impl.State) { s.Know[2], s.Cells = 5, append(s.Cells, cell(2, 3, 1, impl.Dot{})) },
		"a Sum more, known": func(s *impl.State) { s.Tallies[0].Sum, s.Know[0] = 8, 10 },
		"no Live at all":    func(s *impl.State) { s.Know, s.Lives = []int{1000, 1000, 1000}, nil },
	} {
		other := changedState(some, change)
		wantState(t, name, other, true)
		wantBetween(t, name, some, other, changedState(some, func(s *impl.State) { s.Know[0] = 12 }))
	}
}

func TestTextsOfWhatChangedAreNew(t *testing.T) {
	// Texts of one byte may stand in memory that all of the program has; these are longer.
	obj, key := strings.Repeat("ma", 3), strings.Repeat("ky", 3)
	parts := func(rep, seq int) impl.State {
		know := []int{3, 3, 3}
		know[rep] = seq + 1
		return impl.State{Know: know, Tallies: []impl.Tally{{Obj: obj, Rep: rep}},
			Lives: []impl.Live{{Map: true, Obj: obj, Key: key, Dot: dot(rep, seq)}}, Cells: []impl.Cell{{Obj: obj, Dot: dot(rep, seq+1), Time: 1}}}
	}
	s := parts(0, 2)
	d, ok := impl.DeltaOf(impl.StateNew(), s)
	if !ok {
		t.Fatal("no Delta")
	}
	next, code := impl.DoDelta(s, deltaOfParts([]int{3, 3, 3}, parts(1, 8)))
	wrong := changedState(s, func(s *impl.State) { s.Know[0] = -1 })
	refused, _ := impl.DoDelta(wrong, d)
	old, _ := impl.DoDelta(s, d)
	if code != 0 || len(next.Cells) != 2 || len(next.Lives) != 2 || len(next.Tallies) != 2 {
		t.Fatalf("DoDelta told %d: %+v", code, next)
	}
	for i, got := range []impl.State{partsOfDelta(d), next, refused, old} {
		if len(textsOf(got)) < 4 {
			t.Fatalf("%d texts of %d", len(textsOf(got)), i)
		}
		for _, text := range textsOf(got) {
			if sharesMemory(text, obj) || sharesMemory(text, key) {
				t.Fatalf("a text of what changed stands in an argument: %d", i)
			}
		}
	}
}

// What changed, done to what was, or to more, is what is.
func TestWhatChangedInDrawnPasts(t *testing.T) {
	taken, more, partly, dead, cellsGone := 0, 0, 0, 0, 0
	for seed := range int64(60) {
		r := rand.New(rand.NewSource(seed))
		acts := drawnActs(t, r, 50)
		some := []impl.State{impl.StateNew()}
		for range 5 {
			some = append(some, drawnKnown(r, acts))
		}
		for i := range 4 {
			some = append(some, impl.MergeState(some[i], some[i+1]))
		}
		for _, p := range some {
			for _, c := range some {
				if !impl.Behind(p, c) {
					wantNoDelta(t, "drawn", p, c)
					continue
				}
				var knowMore []impl.State
				for _, s := range some {
					if impl.KnowIn(p.Know, s.Know) {
						knowMore = append(knowMore, s)
						more++
						if !impl.KnowIn(c.Know, s.Know) && len(impl.KnowMin(s.Know, c.Know)) > 0 && !slices.Equal(impl.KnowMin(s.Know, c.Know), p.Know) {
							partly++
						}
					} else if d, _ := impl.DeltaOf(p, c); !impl.KnowIn(c.Know, s.Know) {
						wantNotTaken(t, "drawn, early", s, d, impl.EdEarly)
					}
				}
				wantBetween(t, "drawn", p, c, knowMore...)
				d, _ := impl.DeltaOf(p, c)
				taken++
				dead += len(d.Dead)
				for _, x := range d.Cells {
					if x.Gone && impl.CellAt(p, x.Dot) >= 0 {
						cellsGone++
					}
				}
			}
		}
	}
	if taken < 500 || more < 2000 || partly < 100 || dead < 80 || cellsGone < 50 {
		t.Errorf("drawn were %d, done to more %d, to some that knew a part %d, dead %d, cells gone %d", taken, more, partly, dead, cellsGone)
	}
}

// drawnDelta is of few dots, and of no past that a state has in common with it; mostly it is right.
func drawnDelta(r *rand.Rand) impl.Delta {
	s := drawnState(r)
	d := deltaOfParts([]int{0, 0, 0}, s)
	for rep := range d.Base {
		d.Base[rep] = r.Intn(s.Know[rep] + 1)
		for seq := 1; seq <= d.Base[rep]; seq++ {
			if r.Intn(2) == 0 {
				d.Dead = append(d.Dead, dot(rep, seq))
			}
		}
	}
	d.Lives = slices.DeleteFunc(d.Lives, func(l impl.Live) bool { return l.Dot.Seq <= d.Base[l.Dot.Rep] })
	switch r.Intn(20) {
	case 0:
		d.Base[r.Intn(3)]++
	case 1:
		d.Know[r.Intn(3)]--
	case 2:
		d.Dead = append(d.Dead, dot(r.Intn(3), 1+r.Intn(2)))
	}
	return d
}

func TestDrawnDeltas(t *testing.T) {
	r := rand.New(rand.NewSource(11))
	var states []impl.State
	for len(states) < 60 {
		s := drawnState(r)
		if impl.StateOk(s) || len(states)%10 == 9 {
			states = append(states, s)
		}
	}
	codes, rights := map[int]int{}, map[bool]int{}
	for range 200 {
		d := drawnDelta(r)
		right := plainlyRightDelta(d)
		rights[right]++
		wantDeltaOk(t, "drawn", d, right)
		for _, s := range states {
			want, code := plainlyTaken(s, d)
			codes[code]++
			wantTaken(t, "drawn", s, d, want, code)
		}
	}
	if codes[0] < 1000 || codes[1] < 300 || codes[2] < 1000 || codes[3] < 1000 || rights[true] < 100 || rights[false] < 10 {
		t.Errorf("drawn were codes %v, right %v", codes, rights)
	}
	between := 0
	for _, p := range states {
		for _, c := range states {
			want, ok := plainDelta(p, c)
			if !ok {
				wantNoDelta(t, "drawn", p, c)
				continue
			}
			wantDelta(t, "drawn", p, c, want)
			between++
		}
	}
	if between < 60 {
		t.Errorf("only %d of two", between)
	}
}

func TestNumbersFarOffInADelta(t *testing.T) {
	for _, far := range []int{math.MinInt, -1, math.MaxInt} {
		for _, change := range []func(d *impl.Delta){
			func(d *impl.Delta) { d.Base[0] = far },
			func(d *impl.Delta) { d.Know[0] = far },
			func(d *impl.Delta) { d.Tallies[0].Rep = far },
			func(d *impl.Delta) { d.Tallies[0].Sum = far },
			func(d *impl.Delta) { d.Lives[0].Val = far },
			func(d *impl.Delta) { d.Lives[0].Dot.Rep = far },
			func(d *impl.Delta) { d.Lives[0].Dot.Seq = far },
			func(d *impl.Delta) { d.Dead[0].Rep = far },
			func(d *impl.Delta) { d.Dead[0].Seq = far },
			func(d *impl.Delta) { d.Cells[0].Dot.Rep = far },
			func(d *impl.Delta) { d.Cells[0].Dot.Seq = far },
			func(d *impl.Delta) { d.Cells[0].Ref.Rep = far },
			func(d *impl.Delta) { d.Cells[0].Ref.Seq = far },
			func(d *impl.Delta) { d.Cells[0].Time = far },
			func(d *impl.Delta) { d.Cells[0].Val = far },
		} {
			d := changedDelta(someDelta(), change)
			wantDeltaOk(t, "far off", d, false)
			wantNotTaken(t, "far off", someTaker(), d, impl.EdForm)
			wantNotTaken(t, "far off", impl.StateNew(), d, impl.EdForm)
		}
	}
}
