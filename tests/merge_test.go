package tests

import (
	"math"
	"math/rand"
	"reflect"
	"slices"
	"sort"
	"strconv"
	"strings"
	"testing"

	"loop.example/g00463/impl"
)

// wantMerged asks for what a and b become, and that neither the call nor a write into its answer comes to either or to a later answer.
func wantMerged(t *testing.T, name string, a, b, want impl.State) {
	t.Helper()
	a, b, want = roomyState(a), roomyState(b), ownState(want)
	aBefore, bBefore := whole(a), whole(b)
	for range 2 {
		got := impl.MergeState(a, b)
		if !impl.SameState(got, want) {
			t.Errorf("%s: MergeState is\n%+v\nnot\n%+v\nof\n%+v\nand\n%+v", name, got, want, a, b)
		}
		if impl.StateOk(a) && !impl.StateOk(got) {
			t.Errorf("%s: what became of a right one is not right: %+v", name, got)
		}
		writeOver(got)
		if !reflect.DeepEqual(whole(a), aBefore) || !reflect.DeepEqual(whole(b), bBefore) {
			t.Fatalf("%s: a state was written into:\n%+v\n%+v", name, whole(a), whole(b))
		}
	}
}

// wantAlike is for two of one past: they become the same whichever is first and however often, and both are behind it.
func wantAlike(t *testing.T, name string, a, b, want impl.State) {
	t.Helper()
	wantMerged(t, name, a, b, want)
	wantMerged(t, name+", turned round", b, a, want)
	for _, s := range []impl.State{a, b} {
		wantMerged(t, name+", again", want, s, want)
		wantMerged(t, name+", again, turned round", s, want, want)
		wantMerged(t, name+", with itself", s, s, s)
		wantBehind(t, name, s, want, true)
		wantBehind(t, name+", itself", s, s, true)
		wantBehind(t, name+", turned round", want, s, impl.SameState(s, want))
	}
	wantMerged(t, name+", what came with itself", want, want, want)
	wantBehind(t, name+", a and b", a, b, impl.SameState(b, want))
	wantBehind(t, name+", b and a", b, a, impl.SameState(a, want))
}

func wantBehind(t *testing.T, name string, a, b impl.State, want bool) {
	t.Helper()
	a, b = roomyState(a), roomyState(b)
	aBefore, bBefore := whole(a), whole(b)
	if got := impl.Behind(a, b); got != want {
		t.Errorf("%s: Behind = %v of\n%+v\nand\n%+v", name, got, a, b)
	}
	if !reflect.DeepEqual(whole(a), aBefore) || !reflect.DeepEqual(whole(b), bBefore) {
		t.Errorf("%s: Behind wrote into a state:\n%+v\n%+v", name, whole(a), whole(b))
	}
}

// wantClashes also asks that they are the same whichever of both is first.
func wantClashes(t *testing.T, name string, base, a, b impl.State, want ...impl.Clash) {
	t.Helper()
	base, a, b = roomyState(base), roomyState(a), roomyState(b)
	before := []impl.State{whole(base), whole(a), whole(b)}
	for range 2 {
		for _, got := range [][]impl.Clash{impl.ClashesOf(base, a, b), impl.ClashesOf(base, b, a)} {
			if !slices.Equal(got, want) {
				t.Errorf("%s: ClashesOf = %v, not %v", name, got, want)
			}
			for i := range got[:cap(got)] {
				got[:cap(got)][i] = impl.Clash{Obj: "written"}
			}
		}
	}
	if !reflect.DeepEqual([]impl.State{whole(base), whole(a), whole(b)}, before) {
		t.Errorf("%s: a state was written into", name)
	}
}

// plainMerge goes by the words of the document, with no helper of the program but StateOk: whatever stands in either is asked for by name, and all is sorted.
func plainMerge(a, b impl.State) impl.State {
	if !impl.StateOk(a) || !impl.StateOk(b) {
		return ownState(a)
	}
	var s impl.State
	for rep := range 3 {
		s.Know = append(s.Know, max(a.Know[rep], b.Know[rep]))
		owner := a
		if a.Know[rep] < b.Know[rep] {
			owner = b
		}
		for _, p := range owner.Tallies {
			if p.Rep == rep {
				s.Tallies = append(s.Tallies, p)
			}
		}
	}
	for _, l := range a.Lives {
		if slices.Contains(b.Lives, l) || l.Dot.Seq > b.Know[l.Dot.Rep] {
			s.Lives = append(s.Lives, l)
		}
	}
	for _, l := range b.Lives {
		if l.Dot.Seq > a.Know[l.Dot.Rep] {
			s.Lives = append(s.Lives, l)
		}
	}
	byDot := map[impl.Dot]impl.Cell{}
	for _, c := range slices.Concat(b.Cells, a.Cells) {
		c.Gone = c.Gone || byDot[c.Dot].Gone
		byDot[c.Dot] = c
	}
	for _, c := range byDot {
		s.Cells = append(s.Cells, c)
	}
	sort.Slice(s.Tallies, func(i, j int) bool {
		x, y := s.Tallies[i], s.Tallies[j]
		return x.Obj < y.Obj || x.Obj == y.Obj && x.Rep < y.Rep
	})
	sort.Slice(s.Lives, func(i, j int) bool { return dotLess(s.Lives[i].Dot, s.Lives[j].Dot) })
	sort.Slice(s.Cells, func(i, j int) bool { return dotLess(s.Cells[i].Dot, s.Cells[j].Dot) })
	if !impl.StateOk(s) {
		return ownState(a)
	}
	return s
}

func plainClashes(base, a, b impl.State) []impl.Clash {
	if !impl.StateOk(base) || !impl.StateOk(a) || !impl.StateOk(b) {
		return nil
	}
	valsOf := func(s impl.State) (map[impl.Clash][]int, map[impl.Clash]bool) {
		vals, fresh := map[impl.Clash][]int{}, map[impl.Clash]bool{}
		for _, l := range s.Lives {
			if name := (impl.Clash{Obj: l.Obj, Key: l.Key}); l.Map {
				vals[name] = append(vals[name], l.Val)
				sort.Ints(vals[name])
				fresh[name] = fresh[name] || l.Dot.Seq > base.Know[l.Dot.Rep]
			}
		}
		return vals, fresh
	}
	aVals, aFresh := valsOf(a)
	bVals, bFresh := valsOf(b)
	var out []impl.Clash
	for name := range aFresh {
		if aFresh[name] && bFresh[name] && !slices.Equal(aVals[name], bVals[name]) {
			out = append(out, name)
		}
	}
	sort.Slice(out, func(i, j int) bool {
		return out[i].Obj < out[j].Obj || out[i].Obj == out[j].Obj && out[i].Key < out[j].Key
	})
	return out
}

// goesOn is what s is behind edits of rep.
func goesOn(t *testing.T, s impl.State, rep int, edits ...impl.Edit) impl.State {
	t.Helper()
	for _, e := range edits {
		s = done(t, s, rep, e)
	}
	return s
}

// parting is one past, and three that went on from it, each with acts of its own of all kinds.
func parting(t *testing.T) (impl.State, []impl.State) {
	t.Helper()
	base := goesOn(t, impl.StateNew(), 0,
		count("c", 5), keyEdit(impl.AcAdd, "s", "j", 0), keyEdit(impl.AcAdd, "s", "k", 0), keyEdit(impl.AcAdd, "s", "l", 0),
		keyEdit(impl.AcPut, "m", "x", 1), keyEdit(impl.AcPut, "m", "y", 2), keyEdit(impl.AcPut, "m", "z", 3),
		ins("r", 0, 10), ins("r", 1, 20), ins("r", 2, 30), ins("r", 3, 40), cut("r", 3),
	)
	base = goesOn(t, base, 1, count("c", 7))
	return base, []impl.State{
		goesOn(t, base, 0, count("c", 999998), count("d", 1), keyEdit(impl.AcDel, "s", "j", 0), keyEdit(impl.AcAdd, "s", "k", 0),
			keyEdit(impl.AcPut, "m", "x", 4), keyEdit(impl.AcDrop, "m", "y", 0), ins("r", 1, 11), cut("r", 2)),
		goesOn(t, base, 1, count("c", 100), keyEdit(impl.AcDel, "s", "k", 0), keyEdit(impl.AcAdd, "s", "n", 0),
			keyEdit(impl.AcPut, "m", "x", 6), keyEdit(impl.AcDrop, "m", "z", 0), ins("r", 1, 12), ins("r", 0, 2), cut("r", 3)),
		goesOn(t, base, 2, count("c", 1000), keyEdit(impl.AcAdd, "t", "k", 0), keyEdit(impl.AcDel, "s", "l", 0),
			keyEdit(impl.AcDrop, "m", "x", 0), keyEdit(impl.AcPut, "m", "y", 8), ins("q", 0, 1), cut("r", 0), ins("r", 2, 31)),
	}
}

func TestTwoThatWentOnFromOne(t *testing.T) {
	base, gone := parting(t)
	for i, a := range gone {
		wantAlike(t, "one went on", base, a, a)
		for j, b := range gone {
			wantAlike(t, strconv.Itoa(i)+" and "+strconv.Itoa(j), a, b, plainMerge(a, b))
		}
	}
	// What comes of the first two, written out by hand.
	m := impl.MergeState(gone[0], gone[1])
	if !slices.Equal(m.Know, []int{20, 9, 0}) || !slices.Equal(m.Tallies, []impl.Tally{{Obj: "c", Rep: 0, Sum: 3}, {Obj: "c", Rep: 1, Sum: 107}, {Obj: "d", Rep: 0, Sum: 1}}) {
		t.Errorf("two became %+v", m)
	}
	wantReading(t, "two became one", m, "c", "", reading{count: 110})
	wantReading(t, "two became one", m, "d", "", reading{count: 1})
	wantReading(t, "two became one", m, "s", "", reading{set: []string{"k", "l", "n"}})
	wantReading(t, "two became one", m, "m", "x", reading{keys: []string{"x"}, vals: []int{4, 6}})
	if row := impl.RowOf(m, "r"); !slices.Equal(row, []int{2, 10, 12, 11, 30}) {
		t.Errorf("the row of two is %v", row)
	}
}

func TestThreeInEitherGrouping(t *testing.T) {
	_, gone := parting(t)
	want := plainMerge(plainMerge(gone[0], gone[1]), gone[2])
	for _, order := range [][]int{{0, 1, 2}, {0, 2, 1}, {1, 0, 2}, {1, 2, 0}, {2, 0, 1}, {2, 1, 0}} {
		a, b, c := gone[order[0]], gone[order[1]], gone[order[2]]
		wantAlike(t, "the first two ahead", impl.MergeState(a, b), c, want)
		wantAlike(t, "the last two ahead", a, impl.MergeState(b, c), want)
		wantAlike(t, "two that have one in common", impl.MergeState(a, b), impl.MergeState(b, c), want)
	}
	wantReading(t, "three became one", want, "c", "", reading{count: 1110})
	wantReading(t, "three became one", want, "s", "", reading{set: []string{"k", "n"}})
	wantReading(t, "three became one", want, "m", "x", reading{keys: []string{"x", "y"}, vals: []int{4, 6}})
	wantReading(t, "three became one", want, "m", "y", reading{keys: []string{"x", "y"}, vals: []int{8}})
	if row := impl.RowOf(want, "r"); !slices.Equal(row, []int{2, 12, 11, 30, 31}) {
		t.Errorf("the row of three is %v", row)
	}
}

// knowing has these parts and knows so much.
func knowing(s impl.State, know ...int) impl.State {
	s.Know = know
	return s
}

// liveAt is in the map (the set) "m" under the key "k".
func liveAt(isMap bool, val, rep, seq int) impl.Live {
	return impl.Live{Map: isMap, Obj: "m", Key: "k", Val: val, Dot: dot(rep, seq)}
}

func ofLives(know []int, list ...impl.Live) impl.State {
	return impl.State{Know: know, Lives: list}
}

func TestLivesThatOneHas(t *testing.T) {
	for rep := range impl.Reps {
		for _, isMap := range []bool{false, true} {
			l := liveAt(isMap, 0, rep, 5)
			know := func(n int) []int {
				k := []int{7, 7, 7}
				k[rep] = n
				return k
			}
			for _, row := range []struct {
				name  string
				b     impl.State
				there bool
			}{
				{"knows it and has it no more", ofLives(know(5)), false},
				{"knows more and has it no more", ofLives(know(9)), false},
				{"knows all and has it no more", ofLives(know(impl.MaxSeq)), false},
				{"knows one less", ofLives(know(4)), true},
				{"knows nothing of it", ofLives(know(0)), true},
				{"has it", ofLives(know(5), l), true},
				{"has it and knows more", ofLives(know(9), l), true},
			} {
				a := ofLives(know(6), l)
				want := ofLives(know(max(6, row.b.Know[rep])))
				if row.there {
					want.Lives = []impl.Live{l}
				}
				wantAlike(t, row.name, a, row.b, want)
			}
		}
	}
}

func TestLivesOfBothStandInOrder(t *testing.T) {
	a := ofLives([]int{4, 4, 0}, liveAt(true, 1, 0, 1), liveAt(true, 2, 0, 4), liveAt(true, 3, 1, 1), liveAt(true, 4, 1, 3))
	b := ofLives([]int{2, 6, 3}, liveAt(true, 1, 0, 1), liveAt(true, 5, 0, 2), liveAt(true, 4, 1, 3), liveAt(true, 6, 1, 5), liveAt(true, 7, 1, 6), liveAt(true, 8, 2, 3))
	want := ofLives([]int{4, 6, 3}, liveAt(true, 1, 0, 1), liveAt(true, 2, 0, 4), liveAt(true, 4, 1, 3), liveAt(true, 6, 1, 5), liveAt(true, 7, 1, 6), liveAt(true, 8, 2, 3))
	wantAlike(t, "lives of both", a, b, want)
}

// Two Lives of one Dot, known by both, that are not the same: neither is one that both have.
func TestUnlikeLivesOfOneDot(t *testing.T) {
	first := liveAt(true, 3, 1, 2)
	beside := liveAt(false, 0, 2, 1)
	for name, other := range map[string]impl.Live{
		"Val":         {Map: true, Obj: "m", Key: "k", Val: 4, Dot: dot(1, 2)},
		"Obj":         {Map: true, Obj: "n", Key: "k", Val: 3, Dot: dot(1, 2)},
		"Key":         {Map: true, Obj: "m", Key: "l", Val: 3, Dot: dot(1, 2)},
		"Map and Val": {Map: false, Obj: "m", Key: "k", Val: 0, Dot: dot(1, 2)},
	} {
		a, b := ofLives([]int{1, 2, 1}, first, beside), ofLives([]int{0, 3, 1}, other, beside)
		want := ofLives([]int{1, 3, 1}, beside)
		wantMerged(t, "unlike "+name, a, b, want)
		wantMerged(t, "unlike "+name+", turned round", b, a, want)
		wantBehind(t, "unlike "+name, a, knowing(b, 1, 3, 1), false)
		wantBehind(t, "unlike "+name+", gone", a, want, true)
	}
	set, inMap := liveAt(false, 0, 1, 2), liveAt(true, 0, 1, 2)
	wantMerged(t, "unlike Map alone", ofLives([]int{1, 2, 1}, set), ofLives([]int{1, 2, 1}, inMap), ofLives([]int{1, 2, 1}))
}

func TestTalliesOfWhoeverKnowsMore(t *testing.T) {
	sum := func(n int, know ...int) impl.State {
		return impl.State{Know: know, Tallies: []impl.Tally{{Obj: "c", Rep: 1, Sum: n}}}
	}
	wantMerged(t, "a knows more", sum(3, 0, 5, 0), sum(9, 0, 4, 0), sum(3, 0, 5, 0))
	wantMerged(t, "b knows more", sum(9, 0, 4, 0), sum(3, 0, 5, 0), sum(3, 0, 5, 0))
	wantMerged(t, "both know as much", sum(3, 0, 5, 0), sum(9, 0, 5, 0), sum(3, 0, 5, 0))
	wantMerged(t, "both know as much, turned round", sum(9, 0, 5, 0), sum(3, 0, 5, 0), sum(9, 0, 5, 0))
	wantMerged(t, "both know nothing", sum(3, 0, 0, 0), sum(9, 0, 0, 0), sum(3, 0, 0, 0))
	wantMerged(t, "b knows more of others alone", sum(3, 0, 5, 0), sum(9, 8, 5, 8), sum(3, 8, 5, 8))
	wantMerged(t, "b knows more of it, a of others", sum(3, 8, 5, 8), sum(9, 0, 6, 0), sum(9, 8, 6, 8))
	wantMerged(t, "all and none", sum(3, 0, 0, 0), sum(9, 0, 1000, 0), sum(9, 0, 1000, 0))
	wantMerged(t, "all and none, turned round", sum(3, 0, 1000, 0), sum(9, 0, 0, 0), sum(3, 0, 1000, 0))
	wantBehind(t, "other Sums, both know as much", sum(3, 0, 5, 0), sum(9, 0, 5, 0), false)
	wantBehind(t, "other Sums, b knows more", sum(3, 0, 5, 0), sum(9, 0, 6, 0), true)
	none := impl.State{Know: []int{0, 5, 0}}
	wantMerged(t, "a has none and knows as much", none, sum(9, 0, 5, 0), none)
	wantMerged(t, "b has none and knows as much", sum(9, 0, 5, 0), none, sum(9, 0, 5, 0))
	wantMerged(t, "a has none and knows more", knowing(none, 0, 6, 0), sum(9, 0, 5, 0), knowing(none, 0, 6, 0))
	wantMerged(t, "b has none and knows more", sum(9, 0, 4, 0), none, none)
	wantMerged(t, "a has none and knows less", none, sum(9, 0, 6, 0), sum(9, 0, 6, 0))
	wantMerged(t, "b has none and knows less", sum(9, 0, 6, 0), none, sum(9, 0, 6, 0))
}

func TestTalliesOfEachObjAndRep(t *testing.T) {
	a := impl.State{Know: []int{3, 1, 2}, Tallies: []impl.Tally{
		{Obj: "", Rep: 0, Sum: 1}, {Obj: "b", Rep: 0, Sum: 2}, {Obj: "b", Rep: 1, Sum: 3}, {Obj: "c", Rep: 2, Sum: 4}, {Obj: "d", Rep: 1, Sum: 5},
	}}
	b := impl.State{Know: []int{1, 2, 2}, Tallies: []impl.Tally{
		{Obj: "a", Rep: 1, Sum: 6}, {Obj: "b", Rep: 0, Sum: 7}, {Obj: "b", Rep: 1, Sum: 8}, {Obj: "b", Rep: 2, Sum: 9}, {Obj: "c", Rep: 2, Sum: 10}, {Obj: "ca", Rep: 1, Sum: 11}, {Obj: "e", Rep: 0, Sum: 12},
	}}
	wantMerged(t, "of each", a, b, impl.State{Know: []int{3, 2, 2}, Tallies: []impl.Tally{
		{Obj: "", Rep: 0, Sum: 1}, {Obj: "a", Rep: 1, Sum: 6}, {Obj: "b", Rep: 0, Sum: 2}, {Obj: "b", Rep: 1, Sum: 8}, {Obj: "c", Rep: 2, Sum: 4}, {Obj: "ca", Rep: 1, Sum: 11},
	}})
	wantMerged(t, "of each, turned round", b, a, impl.State{Know: []int{3, 2, 2}, Tallies: []impl.Tally{
		{Obj: "", Rep: 0, Sum: 1}, {Obj: "a", Rep: 1, Sum: 6}, {Obj: "b", Rep: 0, Sum: 2}, {Obj: "b", Rep: 1, Sum: 8}, {Obj: "b", Rep: 2, Sum: 9}, {Obj: "c", Rep: 2, Sum: 10}, {Obj: "ca", Rep: 1, Sum: 11},
	}})
}

func TestCellsThatAreGoneInOne(t *testing.T) {
	know := []int{2, 2, 2}
	there := cell(1, 2, 3, dot(0, 1))
	ahead := cell(0, 1, 2, impl.Dot{})
	gone := there
	gone.Gone = true
	with := func(list ...impl.Cell) impl.State { return knowing(cells(list...), know...) }
	wantAlike(t, "gone in neither", with(ahead, there), with(ahead, there), with(ahead, there))
	wantAlike(t, "gone in one", with(ahead, there), with(ahead, gone), with(ahead, gone))
	wantAlike(t, "gone in both", with(ahead, gone), with(ahead, gone), with(ahead, gone))
	wantAlike(t, "gone in the one that has it", with(ahead), with(ahead, gone), with(ahead, gone))
	wantAlike(t, "there in the one that has it", with(ahead), with(ahead, there), with(ahead, there))
	aheadGone := ahead
	aheadGone.Gone = true
	wantAlike(t, "each gone in another one", with(aheadGone, there), with(ahead, gone), with(aheadGone, gone))
}

func TestUnlikeCellsOfOneDot(t *testing.T) {
	know := []int{4, 4, 4}
	first := cell(1, 2, 5, dot(0, 1))
	ahead, beside := cell(0, 1, 2, impl.Dot{}), cell(0, 2, 3, impl.Dot{})
	with := func(list ...impl.Cell) impl.State { return knowing(cells(list...), know...) }
	for name, change := range map[string]func(c *impl.Cell){
		"Time":         func(c *impl.Cell) { c.Time = 9 },
		"Val":          func(c *impl.Cell) { c.Val = 9 },
		"Ref":          func(c *impl.Cell) { c.Ref = dot(0, 2) },
		"no Ref":       func(c *impl.Cell) { c.Ref = impl.Dot{} },
		"Obj, no Ref":  func(c *impl.Cell) { c.Obj, c.Ref = "q", impl.Dot{} },
		"Time and Ref": func(c *impl.Cell) { c.Time, c.Ref = 4, dot(0, 2) },
	} {
		for number := range 4 {
			mine, other := first, first
			change(&other)
			mine.Gone, other.Gone = number%2 == 1, number/2 == 1
			a, b := with(ahead, beside, mine), with(ahead, beside, other)
			mineMerged, otherMerged := mine, other
			mineMerged.Gone, otherMerged.Gone = number > 0, number > 0
			wantMerged(t, "unlike "+name, a, b, with(ahead, beside, mineMerged))
			wantMerged(t, "unlike "+name+", turned round", b, a, with(ahead, beside, otherMerged))
			wantBehind(t, "unlike "+name, a, b, false)
			wantBehind(t, "unlike "+name+", turned round", b, a, false)
		}
	}
}

// Both are right, but what would come of them is not: a Cell of one stands behind a Cell that the other one has otherwise.
func TestWhatWouldNotBeRight(t *testing.T) {
	know := []int{4, 4, 4}
	otherRow := func(c impl.Cell) impl.Cell {
		c.Obj = "q"
		return c
	}
	none := impl.Dot{}
	behind := cell(1, 2, 5, dot(0, 1))
	with := func(list ...impl.Cell) impl.State { return knowing(cells(list...), know...) }
	b := with(cell(0, 1, 2, none), behind)
	for _, row := range []struct {
		name string
		a    impl.State
		ok   bool
	}{
		{"a Cell of another Obj", with(otherRow(cell(0, 1, 2, none))), false},
		{"of a later Time", with(cell(0, 1, 6, none)), false},
		{"of the same Time", with(cell(0, 1, 5, none)), false},
		{"of the latest Time", with(cell(0, 1, lastTime, none)), false},
		{"of a Time that is just less", with(cell(0, 1, 4, none)), true},
		{"of the first Time", with(cell(0, 1, 1, none)), true},
		{"not there", with(), true},
		{"another Cell of another Obj", with(otherRow(cell(0, 2, 2, none))), true},
	} {
		wantState(t, row.name, row.a, true)
		want := row.a
		if row.ok {
			want = plainMerge(row.a, b)
			if len(want.Cells) < 2 {
				t.Errorf("%s: %+v", row.name, want.Cells)
			}
		}
		wantMerged(t, row.name, row.a, b, want)
		wantBehind(t, row.name, row.a, b, len(row.a.Cells) == 0)
	}
	// Turned round, the Cell ahead is the one of b, and all is right.
	for _, ahead := range []impl.Cell{cell(0, 1, 6, none), otherRow(cell(0, 1, 2, none))} {
		wantMerged(t, "turned round", b, with(ahead), b)
		wantBehind(t, "turned round", with(ahead), b, false)
	}
	// A Cell whose Ref the other one has under an unlike Cell that is itself behind one: no way comes round.
	a := with(cell(0, 1, 2, dot(0, 2)), cell(0, 2, 1, none))
	turned := with(cell(0, 1, 1, none), cell(0, 2, 2, dot(0, 1)), cell(0, 3, 3, dot(0, 2)))
	wantMerged(t, "unlike ways", a, turned, with(cell(0, 1, 2, dot(0, 2)), cell(0, 2, 1, none), cell(0, 3, 3, dot(0, 2))))
	// All that is in a stays, also counters and lives that would have become others.
	full := changedState(someState(), func(s *impl.State) { s.Cells[2].Time, s.Cells[3].Time = 10, 9 })
	late := changedState(full, func(s *impl.State) {
		s.Know[0], s.Know[1], s.Tallies[0].Sum, s.Lives = 12, 9, 500, s.Lives[:1]
		s.Cells = append(s.Cells[:1], impl.Cell{Obj: "r", Dot: dot(1, 7), Time: 9, Ref: dot(0, 4)})
	})
	wantState(t, "late", late, true)
	grown := plainMerge(full, late)
	if len(grown.Cells) != 6 || len(grown.Lives) != 1 {
		t.Errorf("plainMerge is %+v", grown)
	}
	wantMerged(t, "what would be right", full, late, grown)
	late.Cells[0].Time, full.Cells[0].Time = 4, 9
	full.Cells[3].Time, full.Cells[2].Time = 10, 11
	wantState(t, "full", full, true)
	wantMerged(t, "what would not be right", full, late, full)
}

// manyOf has so many of one kind of part from a number on, each of its own Dot (its own Obj), all in order.
func manyOf(kind, from, many int) impl.State {
	s := impl.State{Know: []int{500, 500, 500}}
	for i := from; i < from+many; i++ {
		switch kind {
		case 0:
			s.Tallies = append(s.Tallies, impl.Tally{Obj: string(rune('a'+i/100)) + string(rune('a'+i/10%10)) + string(rune('a'+i%10)), Rep: 1, Sum: i})
		case 1:
			s.Lives = append(s.Lives, liveAt(true, i, 1, i+1))
		case 2:
			s.Cells = append(s.Cells, cell(1, i+1, 3, impl.Dot{}))
		}
	}
	return s
}

func TestRoomForWhatComes(t *testing.T) {
	most := impl.MostParts
	sizes := func(s impl.State) int { return len(s.Tallies) + len(s.Lives) + len(s.Cells) }
	for _, row := range []struct{ mine, common, other int }{
		{most, 0, 0}, {0, most, 0}, {0, 0, most}, {60, 0, 60}, {61, 0, 60}, {60, 0, 61}, {most, 0, 1}, {1, 0, most},
		{1, most - 2, 1}, {1, most - 1, 1}, {0, most - 1, 1}, {most - 1, 1, 1}, {most, 0, most}, {40, 40, 40}, {40, 40, 41},
	} {
		// Cells: whoever has them. Lives: of two dots, that neither knows of the other one, beside those that both have.
		for kind := 1; kind <= 2; kind++ {
			a := manyOf(kind, 0, row.common)
			b := ownState(a)
			for i := range row.mine {
				addPart(&a, kind, dot(0, 501+i))
			}
			for i := range row.other {
				addPart(&b, kind, dot(2, 501+i))
			}
			a = knowing(sortedParts(a), 500+row.mine, 500, 500)
			b = knowing(sortedParts(b), 500, 500, 500+row.other)
			wantState(t, "a of many", a, true)
			wantState(t, "b of many", b, true)
			all := row.mine + row.common + row.other
			want := plainMerge(a, b)
			if all <= most && sizes(want) != all || all > most && !impl.SameState(want, a) {
				t.Fatalf("plainMerge of %+v has %d", row, sizes(want))
			}
			wantMerged(t, "many", a, b, want)
			wantMerged(t, "many, turned round", b, a, plainMerge(b, a))
			wantBehind(t, "many", a, b, row.mine == 0)
		}
		// Tallies: those of one replica in a, those of another one in b.
		a := impl.State{Know: []int{9, 5, 5}, Tallies: talliesOf(0, row.mine)}
		b := impl.State{Know: []int{5, 9, 5}, Tallies: talliesOf(1, row.other)}
		want := plainMerge(a, b)
		if all := row.mine + row.other; all <= most && len(want.Tallies) != all || all > most && !impl.SameState(want, a) {
			t.Fatalf("plainMerge of %+v has %d", row, len(want.Tallies))
		}
		wantMerged(t, "many tallies", a, b, want)
		wantMerged(t, "many tallies, turned round", b, a, plainMerge(b, a))
	}
	full := manyParts(most, most, most)
	wantAlike(t, "full", full, full, full)
	wantMerged(t, "full, and nothing", full, impl.StateNew(), full)
	wantMerged(t, "nothing, and full", impl.StateNew(), full, full)
	wantMerged(t, "full, and one more", full, manyParts(most, most, most+1), full)
	wantMerged(t, "nothing, and one more than full", impl.StateNew(), manyParts(most, most+1, most), impl.StateNew())
	// What b takes away makes room for what it has.
	lives := manyOf(1, 0, most)
	fewer := knowing(ofLives(nil, append(slices.Clone(lives.Lives[:most-1]), liveAt(true, 1, 1, 501))...), 500, 501, 500)
	wantMerged(t, "room was made", lives, fewer, fewer)
}

// addPart puts a Live or a Cell of this Dot behind the others, whatever their order.
func addPart(s *impl.State, kind int, d impl.Dot) {
	switch kind {
	case 1:
		s.Lives = append(s.Lives, liveAt(true, d.Seq, d.Rep, d.Seq))
	case 2:
		s.Cells = append(s.Cells, cell(d.Rep, d.Seq, 4, impl.Dot{}))
	}
}

func sortedParts(s impl.State) impl.State {
	sort.Slice(s.Lives, func(i, j int) bool { return dotLess(s.Lives[i].Dot, s.Lives[j].Dot) })
	sort.Slice(s.Cells, func(i, j int) bool { return dotLess(s.Cells[i].Dot, s.Cells[j].Dot) })
	return s
}

func talliesOf(rep, many int) []impl.Tally {
	list := manyOf(0, 0, many).Tallies
	for i := range list {
		list[i].Rep = rep
	}
	return list
}

func TestStatesOfNothing(t *testing.T) {
	nothing := impl.StateNew()
	wantAlike(t, "nothing twice", nothing, nothing, nothing)
	wantAlike(t, "nothing and some", nothing, someState(), someState())
	bare := impl.State{Know: []int{9, 5, 4}}
	wantAlike(t, "no parts and nothing", bare, nothing, bare)
	for _, row := range [][3][]int{
		{{1, 2, 3}, {3, 2, 1}, {3, 2, 3}},
		{{0, 0, 0}, {1000, 1000, 1000}, {1000, 1000, 1000}},
		{{1000, 0, 1000}, {0, 1000, 0}, {1000, 1000, 1000}},
		{{0, 0, 1}, {0, 1000, 0}, {0, 1000, 1}},
	} {
		wantAlike(t, "no parts", impl.State{Know: row[0]}, impl.State{Know: row[1]}, impl.State{Know: row[2]})
	}
	// All that someState has of sets and maps is gone where all is known and nothing is there; the cells stay.
	all := impl.State{Know: []int{1000, 1000, 1000}}
	wantAlike(t, "some and all known", someState(), all, impl.State{Know: all.Know, Cells: someState().Cells})
	// What knows as much and has nothing takes away the lives; the tallies are those of the first.
	wantMerged(t, "some and no parts", someState(), bare, impl.State{Know: bare.Know, Tallies: someState().Tallies, Cells: someState().Cells})
	wantMerged(t, "no parts and some", bare, someState(), impl.State{Know: bare.Know, Cells: someState().Cells})
	empty := impl.State{Know: []int{0, 0, 0}, Tallies: []impl.Tally{}, Lives: []impl.Live{}, Cells: []impl.Cell{}}
	wantAlike(t, "empty lists and none", empty, nothing, nothing)
}

func TestKnowAtItsLimits(t *testing.T) {
	for rep := range impl.Reps {
		at := func(n int) []int {
			k := []int{3, 3, 3}
			k[rep] = n
			return k
		}
		first, last := liveAt(true, 1, rep, 1), liveAt(true, 2, rep, impl.MaxSeq)
		wantAlike(t, "0 and 1", ofLives(at(0)), ofLives(at(1), first), ofLives(at(1), first))
		wantAlike(t, "1 and 1", ofLives(at(1)), ofLives(at(1), first), ofLives(at(1)))
		wantAlike(t, "0 and 1000", ofLives(at(0)), ofLives(at(1000), first, last), ofLives(at(1000), first, last))
		wantAlike(t, "999 and 1000", ofLives(at(999), first), ofLives(at(1000), last), ofLives(at(1000), last))
		wantAlike(t, "1000 and 1000", ofLives(at(1000), first), ofLives(at(1000), first, last), ofLives(at(1000), first))
		cellOf := impl.State{Know: at(1000), Cells: []impl.Cell{cell(rep, 1000, lastTime, impl.Dot{})}}
		wantAlike(t, "the last cell", ofLives(at(0)), cellOf, cellOf)
	}
}

func allWrongStates() map[string]impl.State {
	all := wrongRows()
	for i, s := range wrongStates() {
		all["wrong state "+strconv.Itoa(i)] = s
	}
	return all
}

func TestMergesOfWrongStates(t *testing.T) {
	rights := []impl.State{impl.StateNew(), someState(), manyParts(impl.MostParts, impl.MostParts, impl.MostParts), {Know: []int{1000, 1000, 1000}}}
	wrongs := allWrongStates()
	put := impl.State{Know: []int{10, 5, 4}, Lives: []impl.Live{{Map: true, Obj: "m", Key: "x", Val: 9, Dot: dot(0, 10)}}}
	for name, wrong := range wrongs {
		for _, right := range rights {
			wantMerged(t, name+" as a", wrong, right, wrong)
			wantMerged(t, name+" as b", right, wrong, right)
			wantBehind(t, name+" as a", wrong, right, false)
			wantBehind(t, name+" as b", right, wrong, false)
		}
		for other, alsoWrong := range wrongs {
			wantMerged(t, name+" and "+other, wrong, alsoWrong, wrong)
			wantBehind(t, name+" and "+other, wrong, alsoWrong, false)
			wantClashes(t, name+" and "+other, impl.StateNew(), wrong, alsoWrong)
		}
		wantBehind(t, name+" and itself", wrong, wrong, false)
		wantClashes(t, name+" as base", wrong, someState(), put)
		wantClashes(t, name+" as one", impl.StateNew(), wrong, put)
		wantClashes(t, name+" as one, some as base", someState(), wrong, put)
		wantClashes(t, name+" as all", wrong, wrong, wrong)
	}
	wantClashes(t, "all right", impl.StateNew(), someState(), put, impl.Clash{Obj: "m", Key: "x"})
}

func TestClashesOfTwoThatPut(t *testing.T) {
	base := goesOn(t, impl.StateNew(), 0, keyEdit(impl.AcPut, "m", "x", 1), keyEdit(impl.AcPut, "m", "y", 1), keyEdit(impl.AcAdd, "m", "z", 0))
	puts := func(rep int, edits ...impl.Edit) impl.State { return goesOn(t, base, rep, edits...) }
	put := func(obj, key string, val int) impl.Edit { return keyEdit(impl.AcPut, obj, key, val) }
	clash := func(obj, key string) impl.Clash { return impl.Clash{Obj: obj, Key: key} }
	wantClashes(t, "unlike Vals", base, puts(1, put("m", "x", 3)), puts(2, put("m", "x", 5)), clash("m", "x"))
	wantClashes(t, "unlike Vals of a new Key", base, puts(1, put("m", "n", 3)), puts(2, put("m", "n", 5)), clash("m", "n"))
	wantClashes(t, "unlike Vals, one that stood there", base, puts(1, put("m", "x", 1)), puts(2, put("m", "x", 5)), clash("m", "x"))
	wantClashes(t, "like Vals", base, puts(1, put("m", "x", 3)), puts(2, put("m", "x", 3)))
	wantClashes(t, "like Vals, put often", base, puts(1, put("m", "x", 5), put("m", "x", 3)), puts(2, put("m", "x", 4), put("m", "x", 3)))
	wantClashes(t, "unlike Keys", base, puts(1, put("m", "x", 3)), puts(2, put("m", "y", 5)))
	wantClashes(t, "unlike maps", base, puts(1, put("m", "x", 3)), puts(2, put("n", "x", 5)))
	wantClashes(t, "one alone", base, puts(1, put("m", "x", 3)), base)
	wantClashes(t, "neither", base, base, base)
	wantClashes(t, "one put, one dropped", base, puts(1, put("m", "x", 3)), puts(2, keyEdit(impl.AcDrop, "m", "x", 0)))
	wantClashes(t, "one put and dropped", base, puts(1, put("m", "x", 3)), puts(2, put("m", "x", 5), keyEdit(impl.AcDrop, "m", "x", 0)))
	wantClashes(t, "sets", base, puts(1, keyEdit(impl.AcAdd, "m", "x", 0)), puts(2, keyEdit(impl.AcAdd, "m", "x", 0), keyEdit(impl.AcAdd, "m", "z", 0)))
	wantClashes(t, "a set and a map", base, puts(1, keyEdit(impl.AcAdd, "m", "n", 0)), puts(2, put("m", "n", 3)))
	wantClashes(t, "the order of Objs and Keys", base,
		puts(1, put("n", "b", 1), put("m", "y", 2), put("na", "a", 3), put("m", "x", 4), put("b", "z", 5), put("n", "a", 6), put("l", "l", 7)),
		puts(2, put("n", "a", 9), put("b", "z", 9), put("m", "x", 9), put("n", "b", 9), put("m", "y", 9), put("na", "a", 9), put("l", "l", 7), put("k", "k", 8)),
		clash("b", "z"), clash("m", "x"), clash("m", "y"), clash("n", "a"), clash("n", "b"), clash("na", "a"))
	// Each one did what base knows already: that of base is one of neither's new ones.
	a, b := puts(1, put("m", "x", 3)), puts(2, put("m", "x", 5))
	wantClashes(t, "base knows that of one", a, a, b)
	wantClashes(t, "base knows both", impl.MergeState(a, b), a, b)
	wantClashes(t, "base is nothing", impl.StateNew(), a, b, clash("m", "x"))
	wantClashes(t, "the same one", impl.StateNew(), a, a)
	wantClashes(t, "base is nothing, each has what base had", impl.StateNew(), puts(1, put("m", "x", 3)), base, clash("m", "x"))
	// What is behind both has what both put, once each.
	m := impl.MergeState(a, b)
	wantClashes(t, "one and what came of both", base, a, m, clash("m", "x"))
	if vals := impl.MapOf(m, "m", "x"); !slices.Equal(vals, []int{3, 5}) {
		t.Errorf("both put became %v", vals)
	}
	wantClashes(t, "several Vals each", base, goesOn(t, m, 0, put("m", "y", 2)), goesOn(t, m, 1, put("m", "x", 7)), clash("m", "x"))
}

// base may know a Live of a Key that it has not; what counts is that it is known.
func TestClashesByWhatBaseKnows(t *testing.T) {
	a := ofLives([]int{2, 2, 0}, liveAt(true, 1, 0, 1), liveAt(true, 2, 0, 2))
	b := ofLives([]int{2, 2, 0}, liveAt(true, 1, 0, 1), liveAt(true, 3, 1, 2))
	clash := impl.Clash{Obj: "m", Key: "k"}
	for _, row := range []struct {
		know []int
		want []impl.Clash
	}{
		{[]int{0, 0, 0}, []impl.Clash{clash}},
		{[]int{1, 1, 1000}, []impl.Clash{clash}},
		{[]int{2, 1, 0}, nil},
		{[]int{1, 2, 0}, nil},
		{[]int{0, 2, 0}, []impl.Clash{clash}},
		{[]int{2, 2, 0}, nil},
		{[]int{1000, 1000, 1000}, nil},
	} {
		wantClashes(t, "base knows", impl.State{Know: row.know}, a, b, row.want...)
		// What base has, beside what it knows, tells nothing.
		if row.know[0] > 0 {
			wantClashes(t, "base has another one", ofLives(row.know, liveAt(true, 900, 0, 1)), a, b, row.want...)
		}
	}
	// Lives that both have, and none of them alone: MapOf of both is the same.
	wantClashes(t, "both have the same two", impl.StateNew(), a, ofLives([]int{9, 9, 9}, a.Lives...))
	// One has another Live of the Key that base knows: both have a new one, but not the same in all.
	wantClashes(t, "unlike in what base knows", impl.State{Know: []int{1, 0, 0}}, a, ofLives([]int{2, 0, 0}, liveAt(true, 2, 0, 2)), clash)
}

func TestManyClashesAreEachOnce(t *testing.T) {
	var want []impl.Clash
	a, b := impl.State{Know: []int{120, 120, 0}}, impl.State{Know: []int{120, 120, 0}}
	for i := range impl.MostParts {
		// Each Obj and Key stands there more than once, in no order.
		obj, key := string(rune('a'+i*7%4)), strings.Repeat(string(rune('p'+i%3)), 1+i%2)
		a.Lives = append(a.Lives, impl.Live{Map: true, Obj: obj, Key: key, Val: i, Dot: dot(0, i+1)})
		b.Lives = append(b.Lives, impl.Live{Map: true, Obj: obj, Key: key, Val: i + 1, Dot: dot(1, i+1)})
		want = append(want, impl.Clash{Obj: obj, Key: key})
	}
	sort.Slice(want, func(i, j int) bool {
		return want[i].Obj < want[j].Obj || want[i].Obj == want[j].Obj && want[i].Key < want[j].Key
	})
	want = slices.Compact(want)
	if len(want) != 12 {
		t.Fatalf("%d clashes", len(want))
	}
	wantClashes(t, "many", impl.StateNew(), a, b, want...)
	wantClashes(t, "many, all of a known", impl.State{Know: []int{120, 0, 0}}, a, b)
}

func TestBehindOfSome(t *testing.T) {
	base, gone := parting(t)
	for i, s := range gone {
		wantBehind(t, "one and what came of it", base, s, true)
		wantBehind(t, "what came of one, and it", s, base, false)
		wantBehind(t, "nothing and some", impl.StateNew(), s, true)
		for j, other := range gone {
			wantBehind(t, "two that parted", s, other, i == j)
		}
	}
	// It is not enough to know more: all that is there must be what both become.
	some := someState()
	for _, row := range []struct {
		name   string
		change func(s *impl.State)
		want   bool
	}{
		{"itself", func(s *impl.State) {}, true},
		{"knows more", func(s *impl.State) { s.Know[1]++ }, true},
		{"knows less", func(s *impl.State) { s.Know[0], s.Cells = 8, slices.Delete(s.Cells, 2, 3) }, false},
		{"knows more and less", func(s *impl.State) { s.Know[0], s.Know[1], s.Cells = 8, 6, slices.Delete(s.Cells, 2, 3) }, false},
		{"a Live less", func(s *impl.State) { s.Lives = s.Lives[1:] }, true},
		{"a Live more that is known", func(s *impl.State) {
			s.Lives = append(s.Lives[:1:1], slices.Insert(s.Lives[1:], 1, liveAt(true, 1, 0, 9))...)
		}, false},
		{"a Live more", func(s *impl.State) { s.Know[2], s.Lives = 5, append(s.Lives, liveAt(true, 1, 2, 5)) }, true},
		{"a Cell gone", func(s *impl.State) { s.Cells[0].Gone = true }, true},
		{"a Cell there again", func(s *impl.State) { s.Cells[1].Gone = false }, false},
		{"a Cell less", func(s *impl.State) { s.Cells = s.Cells[:4] }, false},
		{"a Cell more", func(s *impl.State) { s.Cells = append(s.Cells, cell(2, 3, 1, impl.Dot{})) }, true},
		{"a Sum more", func(s *impl.State) { s.Tallies[0].Sum++ }, false},
		{"a Sum more, known", func(s *impl.State) { s.Tallies[0].Sum, s.Know[0] = 8, 10 }, true},
		{"a Sum more, another one known", func(s *impl.State) { s.Tallies[0].Sum, s.Know[1] = 8, 10 }, false},
		{"a Tally less", func(s *impl.State) { s.Tallies = s.Tallies[1:] }, false},
		{"a Tally less, known", func(s *impl.State) { s.Tallies, s.Know[0] = s.Tallies[1:], 10 }, true},
	} {
		other := changedState(some, row.change)
		wantState(t, row.name, other, true)
		wantBehind(t, row.name, some, other, row.want)
	}
}

func TestTextsOfWhatBecameOneAreNew(t *testing.T) {
	// Texts of one byte may stand in memory that all of the program has; these are longer.
	obj, key := strings.Repeat("ma", 3), strings.Repeat("ky", 3)
	a := impl.State{Know: []int{3, 0, 0}, Tallies: []impl.Tally{{Obj: obj, Rep: 0}},
		Lives: []impl.Live{{Map: true, Obj: obj, Key: key, Dot: dot(0, 1)}}, Cells: []impl.Cell{{Obj: obj, Dot: dot(0, 2), Time: 1}}}
	b := impl.State{Know: []int{0, 3, 0}, Tallies: []impl.Tally{{Obj: obj, Rep: 1}},
		Lives: []impl.Live{{Map: true, Obj: obj, Key: key, Val: 1, Dot: dot(1, 1)}}, Cells: []impl.Cell{{Obj: obj, Dot: dot(1, 2), Time: 1}}}
	wrong := changedState(a, func(s *impl.State) { s.Know[0] = -1 })
	for _, got := range []impl.State{impl.MergeState(a, b), impl.MergeState(a, a), impl.MergeState(wrong, b), impl.MergeState(a, wrong)} {
		for _, text := range textsOf(got) {
			if sharesMemory(text, obj) || sharesMemory(text, key) {
				t.Fatal("a text of what became one stands in an argument")
			}
		}
	}
	clashes := impl.ClashesOf(impl.StateNew(), a, b)
	if len(clashes) != 1 || clashes[0] != (impl.Clash{Obj: obj, Key: key}) {
		t.Fatalf("clashes are %v", clashes)
	}
	if sharesMemory(clashes[0].Obj, obj) || sharesMemory(clashes[0].Key, key) {
		t.Error("a text of a clash stands in an argument")
	}
}

// drawnKnown is what some of the acts come to, each with all that it is behind.
func drawnKnown(r *rand.Rand, acts []impl.Act) impl.State {
	s := impl.StateNew()
	for _, a := range acts {
		if r.Intn(3) > 0 {
			s, _ = impl.DoAct(s, a)
		}
	}
	return s
}

// knownOf are the acts that either of both knows.
func knownOf(acts []impl.Act, a, b impl.State) []impl.Act {
	var out []impl.Act
	for _, act := range acts {
		if rep, seq := act.Dot.Rep, act.Dot.Seq; seq <= a.Know[rep] || seq <= b.Know[rep] {
			out = append(out, act)
		}
	}
	return out
}

// What two become is what comes of the acts that either knows.
func TestWhatTwoBecomeIsWhatEitherDid(t *testing.T) {
	clashes := 0
	for seed := range int64(80) {
		r := rand.New(rand.NewSource(seed))
		acts := drawnActs(t, r, 50)
		var some []impl.State
		for range 4 {
			some = append(some, drawnKnown(r, acts))
		}
		for _, a := range some {
			for _, b := range some {
				want, _ := impl.Settled(knownOf(acts, a, b))
				wantAlike(t, "drawn", a, b, want)
				if merged := plainMerge(a, b); !impl.SameState(merged, want) {
					t.Fatalf("plainMerge is\n%+v\nnot\n%+v", merged, want)
				}
				for _, base := range some {
					list := plainClashes(base, a, b)
					clashes += len(list)
					wantClashes(t, "drawn", base, a, b, list...)
				}
			}
		}
		a, b, c := some[0], some[1], some[2]
		left, right := impl.MergeState(impl.MergeState(a, b), c), impl.MergeState(a, impl.MergeState(b, c))
		if !impl.SameState(left, right) {
			t.Errorf("three become\n%+v\nand\n%+v", left, right)
		}
	}
	if clashes < 20 {
		t.Errorf("only %d clashes were drawn", clashes)
	}
}

// drawnState is of few dots, and of no past that two such have in common.
func drawnState(r *rand.Rand) impl.State {
	s := impl.State{Know: []int{r.Intn(4), r.Intn(4), r.Intn(4)}}
	for rep := range 3 * impl.Reps {
		if r.Intn(2) == 0 {
			s.Tallies = append(s.Tallies, impl.Tally{Obj: string(rune('a' + rep/3)), Rep: rep % 3, Sum: r.Intn(3)})
		}
	}
	for rep, most := range s.Know {
		for seq := 1; seq <= most; seq++ {
			if r.Intn(2) == 0 {
				isMap := r.Intn(3) > 0
				l := impl.Live{Map: isMap, Obj: string(rune('a' + r.Intn(2))), Key: "k", Dot: dot(rep, seq)}
				if isMap {
					l.Val = r.Intn(3)
				}
				s.Lives = append(s.Lives, l)
			}
			if r.Intn(2) == 0 {
				s.Cells = append(s.Cells, impl.Cell{Obj: string(rune('a' + r.Intn(5)/4)), Dot: dot(rep, seq), Time: 1 + r.Intn(4), Val: r.Intn(2), Gone: r.Intn(3) == 0})
			}
		}
	}
	for i := range s.Cells {
		if r.Intn(2) == 0 {
			s.Cells[i].Ref = s.Cells[r.Intn(len(s.Cells))].Dot
		}
	}
	return s
}

func TestStatesOfNoCommonPast(t *testing.T) {
	r := rand.New(rand.NewSource(10))
	var rights, wrongs []impl.State
	for len(rights) < 90 {
		if s := drawnState(r); impl.StateOk(s) {
			rights = append(rights, s)
		} else if len(wrongs) < 10 {
			wrongs = append(wrongs, s)
		}
	}
	kept, behind, clashes := 0, 0, 0
	all := append(rights, wrongs...)
	for i, a := range all {
		for j, b := range all {
			want := plainMerge(a, b)
			wantMerged(t, "drawn", a, b, want)
			isBehind := impl.StateOk(a) && impl.StateOk(b) && impl.SameState(want, b)
			wantBehind(t, "drawn", a, b, isBehind)
			base := all[(7*i+j)%len(all)]
			list := plainClashes(base, a, b)
			wantClashes(t, "drawn", base, a, b, list...)
			clashes += len(list)
			if isBehind && i != j {
				behind++
			}
			if impl.StateOk(a) && impl.StateOk(b) && impl.SameState(want, a) && i != j {
				kept++
			}
		}
	}
	if kept < 100 || behind < 10 || clashes < 100 {
		t.Errorf("drawn were %d that stay as they are, %d behind, %d clashes", kept, behind, clashes)
	}
}

func TestNumbersFarOffBecomeNothing(t *testing.T) {
	for _, far := range []int{math.MinInt, -1, math.MaxInt} {
		for _, change := range []func(s *impl.State){
			func(s *impl.State) { s.Know[0] = far },
			func(s *impl.State) { s.Tallies[0].Rep = far },
			func(s *impl.State) { s.Tallies[0].Sum = far },
			func(s *impl.State) { s.Lives[0].Val = far },
			func(s *impl.State) { s.Lives[0].Dot.Rep = far },
			func(s *impl.State) { s.Lives[0].Dot.Seq = far },
			func(s *impl.State) { s.Cells[0].Dot.Rep = far },
			func(s *impl.State) { s.Cells[0].Dot.Seq = far },
			func(s *impl.State) { s.Cells[0].Ref.Rep = far },
			func(s *impl.State) { s.Cells[0].Ref.Seq = far },
			func(s *impl.State) { s.Cells[0].Time = far },
			func(s *impl.State) { s.Cells[0].Val = far },
		} {
			wrong := changedState(someState(), change)
			wantMerged(t, "far off", wrong, someState(), wrong)
			wantMerged(t, "far off, turned round", someState(), wrong, someState())
			wantBehind(t, "far off", wrong, wrong, false)
			wantClashes(t, "far off", wrong, someState(), someState())
			wantClashes(t, "far off, turned round", impl.StateNew(), wrong, someState())
		}
	}
}
