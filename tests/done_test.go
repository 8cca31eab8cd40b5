package tests

import (
	"math"
	"math/rand"
	"reflect"
	"slices"
	"sort"
	"strconv"
	"strings"
	"testing"

	"loop.example/g00463/impl"
)

// nextAct is the next one of rep with all that s knows; whatever else it has is for change to say.
func nextAct(s impl.State, rep, kind int, change func(a *impl.Act)) impl.Act {
	a := impl.Act{Dot: impl.Dot{Rep: rep, Seq: s.Know[rep] + 1}, Time: 20, Knew: slices.Clone(s.Know), Kind: kind}
	change(&a)
	return a
}

func counts(s impl.State, rep int, obj string, val int) impl.Act {
	return nextAct(s, rep, impl.AcCount, func(a *impl.Act) { a.Obj, a.Val = obj, val })
}

func keyed(s impl.State, rep, kind int, obj, key string, val int) impl.Act {
	return nextAct(s, rep, kind, func(a *impl.Act) { a.Obj, a.Key, a.Val = obj, key, val })
}

func inserts(s impl.State, rep int, obj string, val, time int, ref impl.Dot) impl.Act {
	return nextAct(s, rep, impl.AcIns, func(a *impl.Act) { a.Obj, a.Val, a.Time, a.Ref = obj, val, time, ref })
}

func cuts(s impl.State, rep int, obj string, ref impl.Dot) impl.Act {
	return nextAct(s, rep, impl.AcCut, func(a *impl.Act) { a.Obj, a.Ref = obj, ref })
}

// roomyState has the same lists with room behind each, in which something stands that must stay.
func roomyState(s impl.State) impl.State {
	return impl.State{
		Know:    append(slices.Clone(s.Know), -7, -8)[:len(s.Know)],
		Tallies: append(slices.Clone(s.Tallies), impl.Tally{Obj: "room"}, impl.Tally{Sum: -8})[:len(s.Tallies)],
		Lives:   append(slices.Clone(s.Lives), impl.Live{Obj: "room"}, impl.Live{Val: -8})[:len(s.Lives)],
		Cells:   append(slices.Clone(s.Cells), impl.Cell{Obj: "room"}, impl.Cell{Val: -8})[:len(s.Cells)],
	}
}

// whole takes the room behind the lists with them.
func whole(s impl.State) impl.State {
	return ownState(impl.State{
		Know:    s.Know[:cap(s.Know)],
		Tallies: s.Tallies[:cap(s.Tallies)],
		Lives:   s.Lives[:cap(s.Lives)],
		Cells:   s.Cells[:cap(s.Cells)],
	})
}

// writeOver leaves nothing of the lists as it was, nor of the room behind them.
func writeOver(s impl.State) {
	for i := range s.Know[:cap(s.Know)] {
		s.Know[:cap(s.Know)][i] = 77
	}
	for i := range s.Tallies[:cap(s.Tallies)] {
		s.Tallies[:cap(s.Tallies)][i] = impl.Tally{Obj: "written", Sum: 77}
	}
	for i := range s.Lives[:cap(s.Lives)] {
		s.Lives[:cap(s.Lives)][i] = impl.Live{Obj: "written", Val: 77}
	}
	for i := range s.Cells[:cap(s.Cells)] {
		s.Cells[:cap(s.Cells)][i] = impl.Cell{Obj: "written", Val: 77}
	}
}

// wantDone asks for the state and the code, and that neither the call nor a write into its answer comes to what was handed in.
func wantDone(t *testing.T, name string, s impl.State, a impl.Act, want impl.State, code int) {
	t.Helper()
	s, want, a = roomyState(s), ownState(want), ownAct(a)
	stateBefore, actBefore := whole(s), ownAct(a)
	got, told := impl.DoAct(s, a)
	if told != code || !impl.SameState(got, want) {
		t.Errorf("%s: DoAct told %d, not %d:\n%+v\nnot\n%+v", name, told, code, got, want)
	}
	if impl.StateOk(s) && !impl.StateOk(got) {
		t.Errorf("%s: what was done to a right state is not right: %+v", name, got)
	}
	all, codes := impl.DoAll(s, []impl.Act{a})
	if !slices.Equal(codes, []int{code}) || !impl.SameState(all, want) {
		t.Errorf("%s: DoAll told %v, not %d:\n%+v", name, codes, code, all)
	}
	writeOver(got)
	writeOver(all)
	if !reflect.DeepEqual(whole(s), stateBefore) {
		t.Errorf("%s: the state was written into: %+v", name, whole(s))
	}
	if !reflect.DeepEqual(ownAct(a), actBefore) {
		t.Errorf("%s: the act was written into: %+v", name, a)
	}
}

// wantRefused asks for the state as it was, beside the code.
func wantRefused(t *testing.T, name string, s impl.State, a impl.Act, code int) {
	t.Helper()
	wantDone(t, name, s, a, s, code)
}

func TestCodesOfDoing(t *testing.T) {
	if impl.EdOld != 1 || impl.EdEarly != 2 || impl.EdForm != 3 || impl.EdFull != 4 {
		t.Errorf("codes are %d, %d, %d, %d", impl.EdOld, impl.EdEarly, impl.EdForm, impl.EdFull)
	}
}

func TestEachKindIsDone(t *testing.T) {
	s := someState()
	r4, r9, q6 := impl.Dot{Rep: 0, Seq: 4}, impl.Dot{Rep: 0, Seq: 9}, impl.Dot{Rep: 0, Seq: 6}
	for _, row := range []struct {
		name   string
		act    impl.Act
		change func(s *impl.State)
	}{
		{"count", counts(s, 0, "c", 5), func(s *impl.State) { s.Know[0], s.Tallies[0].Sum = 10, 12 }},
		{"count nothing", counts(s, 0, "c", 0), func(s *impl.State) { s.Know[0] = 10 }},
		{"add", keyed(s, 1, impl.AcAdd, "m", "x", 0), func(s *impl.State) {
			s.Know[1] = 6
			s.Lives = slices.Insert(s.Lives, 3, impl.Live{Obj: "m", Key: "x", Dot: impl.Dot{Rep: 1, Seq: 6}})
		}},
		{"delete", keyed(s, 2, impl.AcDel, "m", "x", 0), func(s *impl.State) {
			s.Know[2], s.Lives = 5, slices.Delete(s.Lives, 1, 2)
		}},
		{"delete of eight letters", keyed(s, 2, impl.AcDel, "s", "abcdefgh", 0), func(s *impl.State) {
			s.Know[2], s.Lives = 5, s.Lives[:4]
		}},
		{"delete what is not there", keyed(s, 2, impl.AcDel, "s", "x", 0), func(s *impl.State) { s.Know[2] = 5 }},
		{"put", keyed(s, 0, impl.AcPut, "m", "x", 8), func(s *impl.State) {
			s.Know[0] = 10
			s.Lives = slices.Delete(slices.Delete(s.Lives, 3, 4), 0, 1)
			s.Lives = slices.Insert(s.Lives, 1, impl.Live{Map: true, Obj: "m", Key: "x", Val: 8, Dot: impl.Dot{Rep: 0, Seq: 10}})
		}},
		{"drop", keyed(s, 1, impl.AcDrop, "m", "x", 0), func(s *impl.State) {
			s.Know[1] = 6
			s.Lives = slices.Delete(slices.Delete(s.Lives, 3, 4), 0, 1)
		}},
		{"drop the other Key", keyed(s, 1, impl.AcDrop, "m", "y", 0), func(s *impl.State) {
			s.Know[1], s.Lives = 6, slices.Delete(s.Lives, 2, 3)
		}},
		{"drop what is not there", keyed(s, 1, impl.AcDrop, "s", "abcdefgh", 0), func(s *impl.State) { s.Know[1] = 6 }},
		{"insert", inserts(s, 1, "r", 6, 10, r9), func(s *impl.State) {
			s.Know[1] = 6
			s.Cells = slices.Insert(s.Cells, 4, impl.Cell{Obj: "r", Dot: impl.Dot{Rep: 1, Seq: 6}, Time: 10, Ref: r9, Val: 6})
		}},
		{"insert at the beginning", inserts(s, 2, "new", 0, 1, impl.Dot{}), func(s *impl.State) {
			s.Know[2] = 5
			s.Cells = append(s.Cells, impl.Cell{Obj: "new", Dot: impl.Dot{Rep: 2, Seq: 5}, Time: 1})
		}},
		{"insert behind what is gone", inserts(s, 2, "q", 1, 3, q6), func(s *impl.State) {
			s.Know[2] = 5
			s.Cells = append(s.Cells, impl.Cell{Obj: "q", Dot: impl.Dot{Rep: 2, Seq: 5}, Time: 3, Ref: q6, Val: 1})
		}},
		{"cut", cuts(s, 1, "r", r4), func(s *impl.State) { s.Know[1], s.Cells[0].Gone = 6, true }},
		{"cut the last", cuts(s, 2, "q", impl.Dot{Rep: 2, Seq: 2}), func(s *impl.State) { s.Know[2], s.Cells[4].Gone = 5, true }},
		{"cut what is gone", cuts(s, 2, "q", q6), func(s *impl.State) { s.Know[2] = 5 }},
	} {
		wantDone(t, row.name, s, row.act, changedState(s, row.change), 0)
	}
}

func TestTalliesAreCountedInTheirPlace(t *testing.T) {
	s := someState()
	for _, row := range []struct {
		name string
		rep  int
		obj  string
		at   int
	}{
		{"ahead of all", 2, "b", 0},
		{"ahead of all by a beginning", 0, "a", 0},
		{"between two of its Obj", 1, "c", 1},
		{"between two Objs", 1, "ca", 2},
		{"ahead of its Obj's", 0, "d", 2},
		{"behind its Obj's", 2, "d", 3},
		{"behind all", 0, "e", 3},
	} {
		want := changedState(s, func(s *impl.State) {
			s.Know[row.rep]++
			s.Tallies = slices.Insert(s.Tallies, row.at, impl.Tally{Obj: row.obj, Rep: row.rep, Sum: 3})
		})
		wantDone(t, row.name, s, counts(s, row.rep, row.obj, 3), want, 0)
		zero := changedState(want, func(s *impl.State) { s.Tallies[row.at].Sum = 0 })
		wantDone(t, row.name+", nothing", s, counts(s, row.rep, row.obj, 0), zero, 0)
	}
	first := impl.Act{Dot: impl.Dot{Rep: 2, Seq: 1}, Time: 1, Knew: []int{0, 0, 0}, Kind: impl.AcCount, Obj: "c", Val: 999999}
	wantDone(t, "the first of all", impl.StateNew(), first, impl.State{Know: []int{0, 0, 1}, Tallies: []impl.Tally{{Obj: "c", Rep: 2, Sum: 999999}}}, 0)
}

func TestSumsComeRound(t *testing.T) {
	for _, row := range []struct{ sum, val, want int }{
		{0, 999999, 999999}, {999999, 0, 999999}, {999998, 1, 999999}, {1, 999998, 999999}, {500000, 499999, 999999},
		{999999, 1, 0}, {1, 999999, 0}, {500000, 500000, 0},
		{999999, 2, 1}, {2, 999999, 1}, {500000, 500001, 1},
		{999999, 999999, 999998}, {0, 0, 0}, {0, 1, 1}, {41, 1, 42},
	} {
		s := impl.State{Know: []int{3, 0, 0}, Tallies: []impl.Tally{{Obj: "c", Rep: 0, Sum: row.sum}, {Obj: "c", Rep: 1, Sum: 6}}}
		want := changedState(s, func(s *impl.State) { s.Know[0], s.Tallies[0].Sum = 4, row.want })
		wantDone(t, strconv.Itoa(row.sum)+" and "+strconv.Itoa(row.val), s, counts(s, 0, "c", row.val), want, 0)
	}
}

// rowOfDots has a Live and a Cell at each of these dots.
func rowOfDots(dots ...impl.Dot) impl.State {
	s := impl.State{Know: []int{5, 5, 5}}
	for _, d := range dots {
		s.Lives = append(s.Lives, impl.Live{Obj: "s", Key: "k", Dot: d})
		s.Cells = append(s.Cells, impl.Cell{Obj: "r", Dot: d, Time: 3})
	}
	return s
}

func TestLivesAndCellsGoToTheirPlace(t *testing.T) {
	s := rowOfDots(impl.Dot{Rep: 0, Seq: 5}, impl.Dot{Rep: 1, Seq: 1}, impl.Dot{Rep: 1, Seq: 5}, impl.Dot{Rep: 2, Seq: 2})
	for _, row := range []struct {
		name string
		s    impl.State
		rep  int
		at   int
	}{
		{"to nothing", rowOfDots(), 1, 0},
		{"ahead of all", rowOfDots(impl.Dot{Rep: 1, Seq: 1}, impl.Dot{Rep: 2, Seq: 1}), 0, 0},
		{"behind its own, ahead of others", s, 0, 1},
		{"between others", s, 1, 3},
		{"between others, none of its own", rowOfDots(impl.Dot{Rep: 0, Seq: 5}, impl.Dot{Rep: 2, Seq: 1}), 1, 1},
		{"behind all", s, 2, 4},
		{"behind all, none of its own", rowOfDots(impl.Dot{Rep: 0, Seq: 5}, impl.Dot{Rep: 1, Seq: 5}), 2, 2},
	} {
		d := impl.Dot{Rep: row.rep, Seq: 6}
		knew := changedState(row.s, func(s *impl.State) { s.Know[row.rep] = 6 })
		live := func(isMap bool, obj, key string, val int) impl.State {
			return changedState(knew, func(s *impl.State) {
				s.Lives = slices.Insert(s.Lives, row.at, impl.Live{Map: isMap, Obj: obj, Key: key, Val: val, Dot: d})
			})
		}
		cell := changedState(knew, func(s *impl.State) {
			s.Cells = slices.Insert(s.Cells, row.at, impl.Cell{Obj: "r", Dot: d, Time: 20, Val: 9})
		})
		wantDone(t, "add "+row.name, row.s, keyed(row.s, row.rep, impl.AcAdd, "s", "k", 0), live(false, "s", "k", 0), 0)
		wantDone(t, "put "+row.name, row.s, keyed(row.s, row.rep, impl.AcPut, "s", "k", 4), live(true, "s", "k", 4), 0)
		wantDone(t, "insert "+row.name, row.s, inserts(row.s, row.rep, "r", 9, 20, impl.Dot{}), cell, 0)
	}
}

// livesBeside has, of each replica, Lives of one Obj and Key in a set and in a map, and others of which only one of the three is unlike.
func livesBeside() impl.State {
	s := impl.State{Know: []int{9, 9, 9}}
	for rep := range impl.Reps {
		for seq := 1; seq <= 9; seq++ {
			l := impl.Live{Obj: "o", Key: "k", Dot: impl.Dot{Rep: rep, Seq: seq}}
			switch seq % 5 {
			case 0:
				l.Obj = "ok"
			case 1:
				l.Map, l.Val = true, 5
			case 2:
				l.Key = "kk"
			case 3:
				l.Map, l.Key = true, "o"
			}
			s.Lives = append(s.Lives, l)
		}
	}
	return s
}

func TestWhatWasKnownIsGone(t *testing.T) {
	s := livesBeside()
	wantState(t, "lives beside", s, true)
	for _, others := range [][]int{{0, 0}, {1, 0}, {0, 4}, {3, 4}, {4, 6}, {6, 9}, {9, 9}} {
		knew := []int{others[0], 9, others[1]}
		for _, kind := range []int{impl.AcAdd, impl.AcDel, impl.AcPut, impl.AcDrop} {
			for _, name := range [][]string{{"o", "k"}, {"ok", "k"}, {"o", "kk"}, {"o", "o"}, {"k", "o"}, {"z", "z"}} {
				a := keyed(s, 1, kind, name[0], name[1], 0)
				a.Knew = knew
				isMap := kind == impl.AcPut || kind == impl.AcDrop
				want := impl.State{Know: []int{9, 10, 9}}
				for _, l := range s.Lives {
					gone := kind != impl.AcAdd && l.Map == isMap && l.Obj == name[0] && l.Key == name[1] && l.Dot.Seq <= knew[l.Dot.Rep]
					if !gone {
						want.Lives = append(want.Lives, l)
					}
					if l.Dot == (impl.Dot{Rep: 1, Seq: 9}) && (kind == impl.AcAdd || kind == impl.AcPut) {
						want.Lives = append(want.Lives, impl.Live{Map: isMap, Obj: name[0], Key: name[1], Dot: impl.Dot{Rep: 1, Seq: 10}})
					}
				}
				wantDone(t, "kind "+strconv.Itoa(kind)+" of "+name[0]+", "+name[1], s, a, want, 0)
			}
		}
	}
}

// Written out by hand, beside the test that goes by a rule.
func TestWhatWasNotKnownStays(t *testing.T) {
	set := func(rep, seq int) impl.Live {
		return impl.Live{Obj: "o", Key: "k", Dot: impl.Dot{Rep: rep, Seq: seq}}
	}
	put := func(rep, seq, val int) impl.Live {
		return impl.Live{Map: true, Obj: "o", Key: "k", Val: val, Dot: impl.Dot{Rep: rep, Seq: seq}}
	}
	s := impl.State{Know: []int{4, 4, 0}, Lives: []impl.Live{set(0, 1), put(0, 2, 5), set(0, 3), put(0, 4, 6), set(1, 1), put(1, 2, 7)}}
	act := func(kind, val int) impl.Act {
		return impl.Act{Dot: impl.Dot{Rep: 2, Seq: 1}, Time: 1, Knew: []int{2, 4, 0}, Kind: kind, Obj: "o", Key: "k", Val: val}
	}
	know := []int{4, 4, 1}
	wantDone(t, "delete", s, act(impl.AcDel, 0), impl.State{Know: know, Lives: []impl.Live{put(0, 2, 5), set(0, 3), put(0, 4, 6), put(1, 2, 7)}}, 0)
	wantDone(t, "drop", s, act(impl.AcDrop, 0), impl.State{Know: know, Lives: []impl.Live{set(0, 1), set(0, 3), put(0, 4, 6), set(1, 1)}}, 0)
	wantDone(t, "put", s, act(impl.AcPut, 9), impl.State{Know: know, Lives: []impl.Live{set(0, 1), set(0, 3), put(0, 4, 6), set(1, 1), put(2, 1, 9)}}, 0)
	wantDone(t, "add", s, act(impl.AcAdd, 0), impl.State{Know: know, Lives: append(slices.Clone(s.Lives), set(2, 1))}, 0)
}

func TestFullStatesTakeNoMore(t *testing.T) {
	most := impl.MostParts
	// Acts of replica 2, whose dots below 1000 are known.
	for _, many := range []int{most - 1, most} {
		s := changedState(manyParts(many, many, many), func(s *impl.State) { s.Know[2] = 999 })
		code := 0
		if many == most {
			code = impl.EdFull
		}
		d := impl.Dot{Rep: 2, Seq: 1000}
		for _, row := range []struct {
			name   string
			act    impl.Act
			change func(s *impl.State)
		}{
			{"count", counts(s, 2, "zz", 1), func(s *impl.State) { s.Tallies = append(s.Tallies, impl.Tally{Obj: "zz", Rep: 2, Sum: 1}) }},
			{"count ahead", counts(s, 2, "a", 1), func(s *impl.State) { s.Tallies = slices.Insert(s.Tallies, 0, impl.Tally{Obj: "a", Rep: 2, Sum: 1}) }},
			{"add", keyed(s, 2, impl.AcAdd, "m", "k", 0), func(s *impl.State) { s.Lives = append(s.Lives, impl.Live{Obj: "m", Key: "k", Dot: d}) }},
			{"put", keyed(s, 2, impl.AcPut, "m", "j", 3), func(s *impl.State) {
				s.Lives = append(s.Lives, impl.Live{Map: true, Obj: "m", Key: "j", Val: 3, Dot: d})
			}},
			{"insert", inserts(s, 2, "r", 3, 200, impl.Dot{Rep: 0, Seq: 101}), func(s *impl.State) {
				s.Cells = append(s.Cells, impl.Cell{Obj: "r", Dot: d, Time: 200, Ref: impl.Dot{Rep: 0, Seq: 101}, Val: 3})
			}},
		} {
			want := s
			if code == 0 {
				want = changedState(s, row.change)
				want.Know[2] = 1000
			}
			wantDone(t, row.name, s, row.act, want, code)
		}
	}
}

func TestFullStatesTakeWhatNeedsNoRoom(t *testing.T) {
	s := changedState(manyParts(impl.MostParts, impl.MostParts, impl.MostParts), func(s *impl.State) { s.Know[2] = 999 })
	done := func(change func(s *impl.State)) impl.State {
		return changedState(s, func(s *impl.State) {
			s.Know[2] = 1000
			change(s)
		})
	}
	wantDone(t, "count what is there", s, counts(s, 2, "aa", 5), done(func(s *impl.State) { s.Tallies[2].Sum += 5 }), 0)
	wantDone(t, "delete what is not there", s, keyed(s, 2, impl.AcDel, "m", "k", 0), done(func(s *impl.State) {}), 0)
	wantDone(t, "drop all", s, keyed(s, 2, impl.AcDrop, "m", "k", 0), done(func(s *impl.State) { s.Lives = nil }), 0)
	wantDone(t, "cut", s, cuts(s, 2, "r", s.Cells[60].Dot), done(func(s *impl.State) { s.Cells[60].Gone = true }), 0)
	put := impl.Live{Map: true, Obj: "m", Key: "k", Val: 4, Dot: impl.Dot{Rep: 2, Seq: 1000}}
	wantDone(t, "put for all", s, keyed(s, 2, impl.AcPut, "m", "k", 4), done(func(s *impl.State) { s.Lives = []impl.Live{put} }), 0)
	for _, row := range []struct {
		name string
		knew []int
		gone int
	}{{"put for one", []int{1, 0, 0}, 1}, {"put for two", []int{1, 1, 0}, 2}} {
		// Lives of replica 2 stay: they are of another Key here.
		apart := changedState(s, func(s *impl.State) {
			for i := range s.Lives[100:] {
				s.Lives[100+i].Key = "z"
			}
		})
		a := keyed(apart, 2, impl.AcPut, "m", "k", 4)
		a.Knew = []int{row.knew[0], row.knew[1], 999}
		want := changedState(apart, func(s *impl.State) {
			s.Know[2] = 1000
			if row.gone == 2 {
				s.Lives = slices.Delete(s.Lives, 50, 51)
			}
			s.Lives = append(s.Lives[1:], put)
		})
		wantDone(t, row.name, apart, a, want, 0)
		a.Knew = []int{0, 0, 999}
		wantRefused(t, "put for none", apart, a, impl.EdFull)
	}
}

func TestFullOfOneIsNotFullOfAnother(t *testing.T) {
	most := impl.MostParts
	for _, row := range []struct{ tallies, lives, cells int }{{most, most, 0}, {most, 0, most}, {0, most, most}} {
		s := changedState(manyParts(row.tallies, row.lives, row.cells), func(s *impl.State) { s.Know[2] = 999 })
		for _, act := range []struct {
			act  impl.Act
			full bool
		}{
			{counts(s, 2, "zz", 1), row.tallies == most},
			{keyed(s, 2, impl.AcAdd, "m", "k", 0), row.lives == most},
			{keyed(s, 2, impl.AcPut, "n", "k", 0), row.lives == most},
			{inserts(s, 2, "r", 3, 200, impl.Dot{}), row.cells == most},
		} {
			got, code := impl.DoAct(s, act.act)
			if act.full != (code == impl.EdFull) || act.full != impl.SameState(got, s) || !act.full && code != 0 {
				t.Errorf("of %v: kind %d told %d", row, act.act.Kind, code)
			}
		}
	}
}

func TestTimesOfRefs(t *testing.T) {
	s := someState()
	ref := impl.Dot{Rep: 1, Seq: 5} // at Time 8
	for _, time := range []int{1, 7, 8, 9, 10, lastTime} {
		a := inserts(s, 2, "r", 6, time, ref)
		if time <= 8 {
			wantRefused(t, "insert at "+strconv.Itoa(time), s, a, impl.EdForm)
			continue
		}
		wantDone(t, "insert at "+strconv.Itoa(time), s, a, changedState(s, func(s *impl.State) {
			s.Know[2] = 5
			s.Cells = append(s.Cells, impl.Cell{Obj: "r", Dot: impl.Dot{Rep: 2, Seq: 5}, Time: time, Ref: ref, Val: 6})
		}), 0)
	}
	wantRefused(t, "behind the last Time", s, inserts(s, 1, "q", 6, lastTime, impl.Dot{Rep: 2, Seq: 2}), impl.EdForm)
	for _, time := range []int{1, 7, 8, 9, lastTime} {
		a := cuts(s, 2, "r", ref)
		a.Time = time
		wantDone(t, "cut at "+strconv.Itoa(time), s, a, changedState(s, func(s *impl.State) { s.Know[2], s.Cells[3].Gone = 5, true }), 0)
		wantDone(t, "insert at the beginning", s, inserts(s, 2, "r", 6, time, impl.Dot{}), changedState(s, func(s *impl.State) {
			s.Know[2] = 5
			s.Cells = append(s.Cells, impl.Cell{Obj: "r", Dot: impl.Dot{Rep: 2, Seq: 5}, Time: time, Val: 6})
		}), 0)
	}
}

func TestRefsThatAreNoCells(t *testing.T) {
	s := someState()
	for _, row := range []struct {
		name string
		obj  string
		ref  impl.Dot
	}{
		{"known, but nothing", "r", impl.Dot{Rep: 0, Seq: 1}},
		{"known, but nothing, behind all", "r", impl.Dot{Rep: 2, Seq: 4}},
		{"a Live alone", "m", impl.Dot{Rep: 0, Seq: 2}},
		{"of another Obj", "q", impl.Dot{Rep: 0, Seq: 4}},
		{"of another Obj, gone", "r", impl.Dot{Rep: 0, Seq: 6}},
		{"of an Obj that has none", "s", impl.Dot{Rep: 1, Seq: 5}},
		{"of a longer Obj", "rr", impl.Dot{Rep: 1, Seq: 5}},
	} {
		wantRefused(t, "insert: "+row.name, s, inserts(s, 1, row.obj, 6, lastTime, row.ref), impl.EdForm)
		wantRefused(t, "cut: "+row.name, s, cuts(s, 1, row.obj, row.ref), impl.EdForm)
		early := cuts(s, 1, row.obj, row.ref)
		early.Knew[0]++
		wantRefused(t, "early: "+row.name, s, early, impl.EdEarly)
		full := changedState(manyParts(0, 0, impl.MostParts), func(s *impl.State) { s.Know[1] = 999 })
		wantRefused(t, "full: "+row.name, full, inserts(full, 1, row.obj, 6, lastTime, row.ref), impl.EdForm)
	}
	// A row that is full, and a Ref that is a Cell of it.
	full := changedState(manyParts(0, 0, impl.MostParts), func(s *impl.State) { s.Know[1] = 999 })
	wantRefused(t, "full, the same Time", full, inserts(full, 1, "r", 6, 120, full.Cells[119].Dot), impl.EdForm)
	wantRefused(t, "full, a later Time", full, inserts(full, 1, "r", 6, 121, full.Cells[119].Dot), impl.EdFull)
}

func TestOldAndEarlyActs(t *testing.T) {
	s := someState() // knows 9, 5, 4
	for rep := range impl.Reps {
		for seq := 1; seq <= s.Know[rep]+3; seq++ {
			for _, others := range []int{-1, 0, 1} {
				a := counts(s, rep, "c", 1)
				a.Dot.Seq = seq
				a.Knew[rep] = seq - 1
				other := (rep + 1) % impl.Reps
				a.Knew[other] += others
				switch {
				case seq <= s.Know[rep]:
					wantRefused(t, "old", s, a, impl.EdOld)
				case seq > s.Know[rep]+1 || others > 0:
					wantRefused(t, "early", s, a, impl.EdEarly)
				default:
					if got, code := impl.DoAct(s, a); code != 0 || got.Know[rep] != seq || got.Know[other] != s.Know[other] {
						t.Errorf("DoAct of the next one told %d: %v", code, got.Know)
					}
				}
			}
		}
	}
	last := impl.State{Know: []int{1000, 1000, 999}}
	a := counts(last, 2, "c", 1)
	wantDone(t, "the last of all", last, a, impl.State{Know: []int{1000, 1000, 1000}, Tallies: []impl.Tally{{Obj: "c", Rep: 2, Sum: 1}}}, 0)
	wantRefused(t, "the last of all again", impl.State{Know: []int{1000, 1000, 1000}}, a, impl.EdOld)
	wantRefused(t, "the last of all early", impl.State{Know: []int{1000, 1000, 998}}, a, impl.EdEarly)
	wantRefused(t, "early of another", impl.State{Know: []int{999, 1000, 999}}, a, impl.EdEarly)
}

// Another act with a Dot that is known is old, whatever it is.
func TestOldIsByDotAlone(t *testing.T) {
	s := someState()
	for kind := firstKind; kind <= lastKind; kind++ {
		a := impl.Act{Dot: impl.Dot{Rep: 0, Seq: 9}, Time: 1, Knew: []int{8, 1000, 1000}, Kind: kind, Obj: "r"}
		switch kind {
		case impl.AcAdd, impl.AcDel, impl.AcPut, impl.AcDrop:
			a.Key = "k"
		case impl.AcIns, impl.AcCut:
			a.Ref = impl.Dot{Rep: 1, Seq: 900}
		}
		wantRefused(t, "old of kind "+strconv.Itoa(kind), s, a, impl.EdOld)
		a.Dot.Seq, a.Knew[0] = 10, 9
		wantRefused(t, "early of kind "+strconv.Itoa(kind), s, a, impl.EdEarly)
	}
}

func wrongStates() []impl.State {
	full := impl.MostParts + 1
	out := []impl.State{
		{},
		unrightState(),
		manyParts(full, 0, 0), manyParts(0, full, 0), manyParts(0, 0, full),
		changedState(someState(), func(s *impl.State) { slices.Reverse(s.Tallies) }),
		changedState(someState(), func(s *impl.State) { slices.Reverse(s.Lives) }),
		changedState(someState(), func(s *impl.State) { slices.Reverse(s.Cells) }),
		changedState(someState(), func(s *impl.State) { s.Tallies[2].Sum++ }),
		changedState(someState(), func(s *impl.State) { s.Lives[1].Val = 1 }),
		changedState(someState(), func(s *impl.State) { s.Lives[1].Key = "" }),
		changedState(someState(), func(s *impl.State) { s.Cells[2].Ref.Seq-- }),
		changedState(someState(), func(s *impl.State) { s.Cells[2].Time = 8 }),
		changedState(someState(), func(s *impl.State) { s.Know[2] = 3 }),
	}
	for _, know := range wrongKnowledges() {
		out = append(out, changedState(someState(), func(s *impl.State) { s.Know = know }))
	}
	return out
}

func TestWrongStatesAndActs(t *testing.T) {
	some := someState()
	next := counts(some, 0, "c", 1)
	old := changedAct(next, func(a *impl.Act) { a.Dot.Seq, a.Knew[0] = 9, 8 })
	early := changedAct(next, func(a *impl.Act) { a.Knew[1]++ })
	for i, s := range wrongStates() {
		name := "wrong state " + strconv.Itoa(i)
		for _, a := range []impl.Act{next, old, early, {}, wrongActs()[0]} {
			wantRefused(t, name, s, a, impl.EdForm)
		}
	}
	for _, a := range wrongActs() {
		wantRefused(t, "wrong act", some, a, impl.EdForm)
		wantRefused(t, "wrong act, all known", impl.State{Know: []int{1000, 1000, 1000}}, a, impl.EdForm)
		wantRefused(t, "wrong act, nothing known", impl.StateNew(), a, impl.EdForm)
	}
	for _, a := range rightActs() {
		for _, s := range []impl.State{some, impl.StateNew(), {Know: []int{1000, 1000, 1000}}} {
			want, code := plainlyDone(s, a)
			wantDone(t, "right act", s, a, want, code)
		}
	}
	for _, know := range wrongKnowledges() {
		wantRefused(t, "wrong Knew", some, changedAct(next, func(a *impl.Act) { a.Knew = know }), impl.EdForm)
	}
}

// plainlyDone goes by the words of the document: what is there is left or not, what comes is put behind it, and all is sorted.
func plainlyDone(s impl.State, a impl.Act) (impl.State, int) {
	s = ownState(s)
	if !impl.StateOk(s) || !impl.ActOk(a) {
		return s, 3
	}
	rep := a.Dot.Rep
	if a.Dot.Seq <= s.Know[rep] {
		return s, 1
	}
	for r := range s.Know {
		if a.Knew[r] > s.Know[r] {
			return s, 2
		}
	}
	next := impl.State{Know: append([]int{}, s.Know...), Tallies: append([]impl.Tally{}, s.Tallies...)}
	next.Know[rep] = a.Dot.Seq
	found := a.Ref.Seq == 0
	for _, c := range s.Cells {
		if c.Dot == a.Ref && c.Obj == a.Obj && (a.Kind == 7 || c.Time < a.Time) {
			found = true
			c.Gone = c.Gone || a.Kind == 7
		}
		next.Cells = append(next.Cells, c)
	}
	if !found {
		return s, 3
	}
	for _, l := range s.Lives {
		mine := l.Obj == a.Obj && l.Key == a.Key && l.Dot.Seq <= a.Knew[l.Dot.Rep]
		if !(mine && (a.Kind == 3 && !l.Map || (a.Kind == 4 || a.Kind == 5) && l.Map)) {
			next.Lives = append(next.Lives, l)
		}
	}
	switch a.Kind {
	case 1:
		next.Tallies = plainlyCounted(next.Tallies, a)
	case 2, 4:
		next.Lives = append(next.Lives, impl.Live{Map: a.Kind == 4, Obj: a.Obj, Key: a.Key, Val: a.Val, Dot: a.Dot})
	case 6:
		next.Cells = append(next.Cells, impl.Cell{Obj: a.Obj, Dot: a.Dot, Time: a.Time, Ref: a.Ref, Val: a.Val})
	}
	if len(next.Tallies) > 120 || len(next.Lives) > 120 || len(next.Cells) > 120 {
		return s, 4
	}
	sort.Slice(next.Lives, func(i, j int) bool { return dotLess(next.Lives[i].Dot, next.Lives[j].Dot) })
	sort.Slice(next.Cells, func(i, j int) bool { return dotLess(next.Cells[i].Dot, next.Cells[j].Dot) })
	return next, 0
}

func plainlyCounted(list []impl.Tally, a impl.Act) []impl.Tally {
	found := false
	for i := range list {
		if list[i].Obj == a.Obj && list[i].Rep == a.Dot.Rep {
			list[i].Sum = (list[i].Sum + a.Val) % 1000000
			found = true
		}
	}
	if !found {
		list = append(list, impl.Tally{Obj: a.Obj, Rep: a.Dot.Rep, Sum: a.Val})
	}
	sort.Slice(list, func(i, j int) bool {
		return list[i].Obj < list[j].Obj || list[i].Obj == list[j].Obj && list[i].Rep < list[j].Rep
	})
	return list
}

func dotLess(a, b impl.Dot) bool {
	return a.Rep < b.Rep || a.Rep == b.Rep && a.Seq < b.Seq
}

// braid has acts of three replicas, each behind some of the others' and beside some: a counter, a set, a map and a row.
func braid() []impl.Act {
	act := func(rep, seq, time int, knew []int, kind int, obj, key string, val int, ref impl.Dot) impl.Act {
		return impl.Act{Dot: impl.Dot{Rep: rep, Seq: seq}, Time: time, Knew: knew, Kind: kind, Obj: obj, Key: key, Val: val, Ref: ref}
	}
	none := impl.Dot{}
	return []impl.Act{
		act(0, 1, 1, []int{0, 0, 0}, impl.AcPut, "m", "k", 1, none),
		act(0, 2, 2, []int{1, 0, 0}, impl.AcIns, "r", "", 5, none),
		act(0, 3, 4, []int{2, 1, 0}, impl.AcPut, "m", "k", 2, none),
		act(1, 1, 1, []int{0, 0, 0}, impl.AcPut, "m", "k", 3, none),
		act(1, 2, 3, []int{2, 1, 0}, impl.AcIns, "r", "", 6, impl.Dot{Rep: 0, Seq: 2}),
		act(1, 3, 4, []int{2, 2, 0}, impl.AcCount, "c", "", 999999, none),
		act(2, 1, 3, []int{2, 0, 0}, impl.AcCut, "r", "", 0, impl.Dot{Rep: 0, Seq: 2}),
		act(2, 2, 4, []int{2, 2, 1}, impl.AcDrop, "m", "k", 0, none),
	}
}

func braidOfSets() []impl.Act {
	act := func(rep, seq int, knew []int, kind int, obj, key string, val int) impl.Act {
		return impl.Act{Dot: impl.Dot{Rep: rep, Seq: seq}, Time: 9, Knew: knew, Kind: kind, Obj: obj, Key: key, Val: val}
	}
	return []impl.Act{
		act(0, 1, []int{0, 0, 0}, impl.AcAdd, "s", "k", 0),
		act(0, 2, []int{1, 0, 0}, impl.AcAdd, "s", "k", 0),
		act(0, 3, []int{2, 1, 0}, impl.AcDel, "s", "k", 0),
		act(1, 1, []int{1, 0, 0}, impl.AcDel, "s", "k", 0),
		act(1, 2, []int{1, 1, 0}, impl.AcAdd, "s", "k", 0),
		act(2, 1, []int{0, 0, 0}, impl.AcCount, "s", "", 7),
		act(2, 2, []int{0, 2, 1}, impl.AcCount, "s", "", 999999),
	}
}

// ordersOf hands every order of a list to use.
func ordersOf(list []impl.Act, use func(order []impl.Act)) {
	if len(list) == 0 {
		use(nil)
		return
	}
	for i := range list {
		rest := slices.Delete(slices.Clone(list), i, i+1)
		ordersOf(rest, func(order []impl.Act) { use(append([]impl.Act{list[i]}, order...)) })
	}
}

func mayBeDone(order []impl.Act) bool {
	know := []int{0, 0, 0}
	for _, a := range order {
		for rep := range know {
			if a.Knew[rep] > know[rep] {
				return false
			}
		}
		know[a.Dot.Rep] = a.Dot.Seq
	}
	return true
}

func TestActsComeToTheSameInWhateverOrder(t *testing.T) {
	// What comes of each, written out by hand.
	wants := []impl.State{
		{
			Know:    []int{3, 3, 2},
			Tallies: []impl.Tally{{Obj: "c", Rep: 1, Sum: 999999}},
			Lives:   []impl.Live{{Map: true, Obj: "m", Key: "k", Val: 2, Dot: impl.Dot{Rep: 0, Seq: 3}}},
			Cells: []impl.Cell{
				{Obj: "r", Dot: impl.Dot{Rep: 0, Seq: 2}, Time: 2, Val: 5, Gone: true},
				{Obj: "r", Dot: impl.Dot{Rep: 1, Seq: 2}, Time: 3, Ref: impl.Dot{Rep: 0, Seq: 2}, Val: 6},
			},
		},
		{
			Know:    []int{3, 2, 2},
			Tallies: []impl.Tally{{Obj: "s", Rep: 2, Sum: 6}},
			Lives:   []impl.Live{{Obj: "s", Key: "k", Dot: impl.Dot{Rep: 1, Seq: 2}}},
		},
	}
	for i, list := range [][]impl.Act{braid(), braidOfSets()} {
		orders := 0
		ordersOf(list, func(order []impl.Act) {
			s, n := impl.Settled(order)
			if n != len(list) || !impl.SameState(s, wants[i]) {
				t.Fatalf("Settled did %d of %d: %+v", n, len(list), s)
			}
			if !mayBeDone(order) {
				return
			}
			orders++
			wantAllDone(t, order, wants[i])
		})
		if orders < 10 {
			t.Errorf("only %d orders of %d acts could be done", orders, len(list))
		}
	}
}

// wantAllDone does each act, and each act twice, one behind the other and all again.
func wantAllDone(t *testing.T, order []impl.Act, want impl.State) {
	t.Helper()
	s, codes := impl.DoAll(impl.StateNew(), order)
	if !impl.SameState(s, want) || slices.ContainsFunc(codes, func(code int) bool { return code != 0 }) {
		t.Fatalf("DoAll told %v: %+v", codes, s)
	}
	again, codes := impl.DoAll(s, order)
	if !impl.SameState(again, want) || slices.ContainsFunc(codes, func(code int) bool { return code != impl.EdOld }) {
		t.Fatalf("DoAll again told %v: %+v", codes, again)
	}
	twice := impl.StateNew()
	for _, a := range order {
		once, first := impl.DoAct(twice, a)
		var second int
		twice, second = impl.DoAct(once, a)
		if first != 0 || second != impl.EdOld || !impl.SameState(once, twice) {
			t.Fatalf("DoAct twice told %d and %d: %+v", first, second, twice)
		}
	}
	if !impl.SameState(twice, want) {
		t.Fatalf("each twice came to %+v", twice)
	}
}

// drawnAct is one of rep behind what s knows, right or not for the state that it comes to.
func drawnAct(r *rand.Rand, s impl.State, rep int) impl.Act {
	return nextAct(s, rep, 1+r.Intn(7), func(a *impl.Act) {
		a.Obj, a.Time = string(rune('a'+r.Intn(2))), 1+r.Intn(40)
		switch a.Kind {
		case impl.AcAdd, impl.AcDel, impl.AcPut, impl.AcDrop:
			a.Key = string(rune('j' + r.Intn(2)))
		case impl.AcIns, impl.AcCut:
			if len(s.Cells) > 0 {
				c := s.Cells[r.Intn(len(s.Cells))]
				a.Obj, a.Ref = c.Obj, c.Dot
				a.Time = min(c.Time+1+r.Intn(2), lastTime)
			}
		}
		switch a.Kind {
		case impl.AcCount, impl.AcPut, impl.AcIns:
			a.Val = []int{0, 1, 999999, r.Intn(1000000)}[r.Intn(4)]
		}
	})
}

// drawnActs are what three replicas did, each of which heard some of what the others did.
func drawnActs(t *testing.T, r *rand.Rand, many int) []impl.Act {
	var acts []impl.Act
	states := []impl.State{impl.StateNew(), impl.StateNew(), impl.StateNew()}
	for len(acts) < many {
		rep := r.Intn(3)
		a := drawnAct(r, states[rep], rep)
		want, code := plainlyDone(states[rep], a)
		wantDone(t, "drawn", states[rep], a, want, code)
		if code == 0 {
			states[rep] = want
			acts = append(acts, a)
		}
		if len(acts) == 0 {
			continue
		}
		to, heard := r.Intn(3), acts[r.Intn(len(acts))]
		want, code = plainlyDone(states[to], heard)
		wantDone(t, "heard", states[to], heard, want, code)
		if code == 0 {
			states[to] = want
		}
	}
	return acts
}

func TestDrawnActsComeToTheSame(t *testing.T) {
	for seed := range int64(60) {
		r := rand.New(rand.NewSource(seed))
		acts := drawnActs(t, r, 40)
		want, codes := impl.DoAll(impl.StateNew(), acts)
		if slices.ContainsFunc(codes, func(code int) bool { return code != 0 }) {
			t.Fatalf("acts in the order in which they were made told %v", codes)
		}
		for range 5 {
			order := slices.Clone(acts)
			r.Shuffle(len(order), func(i, j int) { order[i], order[j] = order[j], order[i] })
			order = append(order, order[:10]...)
			got, n := impl.Settled(order)
			if n != len(acts) || !impl.SameState(got, want) {
				t.Fatalf("Settled of another order did %d of %d:\n%+v\nnot\n%+v", n, len(acts), got, want)
			}
		}
	}
}

func TestDoAllOfSome(t *testing.T) {
	list := braid()
	wrong := changedAct(list[1], func(a *impl.Act) { a.Obj = "R" })
	order := []impl.Act{list[1], wrong, list[0], list[0], {}, list[1], list[4], list[3], list[4], wrong, list[7]}
	s, codes := impl.DoAll(impl.StateNew(), order)
	wantCodes := []int{impl.EdEarly, impl.EdForm, 0, impl.EdOld, impl.EdForm, 0, impl.EdEarly, 0, 0, impl.EdForm, impl.EdEarly}
	want, n := impl.Settled([]impl.Act{list[0], list[1], list[3], list[4]})
	if !slices.Equal(codes, wantCodes) || n != 4 || !impl.SameState(s, want) {
		t.Errorf("DoAll told %v: %+v", codes, s)
	}
	for _, s := range append(wrongStates(), someState(), impl.StateNew()) {
		for _, none := range [][]impl.Act{nil, {}} {
			before := ownState(s)
			got, codes := impl.DoAll(s, none)
			if len(codes) != 0 || !impl.SameState(got, s) {
				t.Errorf("DoAll of no acts told %v: %+v", codes, got)
			}
			writeOver(got)
			if !reflect.DeepEqual(ownState(s), before) {
				t.Error("a write into what DoAll answered came to its argument")
			}
		}
	}
	for _, s := range wrongStates() {
		before := ownState(s)
		got, codes := impl.DoAll(s, []impl.Act{list[0], {}, list[3], list[0]})
		if !slices.Equal(codes, []int{3, 3, 3, 3}) || !impl.SameState(got, s) {
			t.Errorf("DoAll to a wrong state told %v: %+v", codes, got)
		}
		writeOver(got)
		if !reflect.DeepEqual(ownState(s), before) {
			t.Error("a write into what DoAll answered came to its argument")
		}
	}
}

func TestSettledOfSome(t *testing.T) {
	list := braid()
	alone := func(acts ...impl.Act) impl.State {
		s := impl.StateNew()
		for _, a := range acts {
			s, _ = plainlyDone(s, a)
		}
		return s
	}
	wrong := changedAct(list[0], func(a *impl.Act) { a.Val = -1 })
	other := changedAct(list[0], func(a *impl.Act) { a.Val = 9 })
	lost := changedAct(list[6], func(a *impl.Act) { a.Ref = impl.Dot{Rep: 0, Seq: 1} })
	for _, row := range []struct {
		name string
		list []impl.Act
		want impl.State
		n    int
	}{
		{"none", nil, impl.StateNew(), 0},
		{"none, empty", []impl.Act{}, impl.StateNew(), 0},
		{"wrong ones alone", []impl.Act{{}, wrong}, impl.StateNew(), 0},
		{"wrong ones among others", []impl.Act{wrong, list[1], {}, list[0], wrong}, alone(list[0], list[1]), 2},
		{"never", []impl.Act{list[1], list[2], list[4]}, impl.StateNew(), 0},
		{"one that can be, and those that never can", []impl.Act{list[2], list[3], list[5], list[1]}, alone(list[3]), 1},
		{"twice", []impl.Act{list[0], list[0], list[1], list[1]}, alone(list[0], list[1]), 2},
		{"the first of two with one Dot", []impl.Act{list[0], other}, alone(list[0]), 1},
		{"the first of two with one Dot, turned", []impl.Act{other, list[0], list[1]}, alone(other, list[1]), 2},
		{"a Ref that never comes, though known", []impl.Act{lost, list[1], list[0]}, alone(list[0], list[1]), 2},
		{"only the last first", []impl.Act{list[2], list[1], list[3], list[0]}, alone(list[0], list[3], list[1], list[2]), 4},
	} {
		before := make([]impl.Act, len(row.list))
		for i, a := range row.list {
			before[i] = ownAct(a)
		}
		got, n := impl.Settled(row.list)
		if n != row.n || !impl.SameState(got, row.want) {
			t.Errorf("%s: Settled did %d: %+v", row.name, n, got)
		}
		writeOver(got)
		for i, a := range row.list {
			if !reflect.DeepEqual(ownAct(a), before[i]) {
				t.Errorf("%s: Settled wrote into its argument", row.name)
			}
		}
	}
}

func TestSettledOfManyTurnedRound(t *testing.T) {
	var list []impl.Act
	for seq := 1; seq <= impl.MaxSeq; seq++ {
		list = append(list, impl.Act{Dot: impl.Dot{Rep: 1, Seq: seq}, Time: seq, Knew: []int{0, seq - 1, 0}, Kind: impl.AcCount, Obj: "c", Val: 1001})
	}
	slices.Reverse(list)
	s, n := impl.Settled(list)
	want := impl.State{Know: []int{0, 1000, 0}, Tallies: []impl.Tally{{Obj: "c", Rep: 1, Sum: 1000}}}
	if n != 1000 || !impl.SameState(s, want) {
		t.Errorf("Settled did %d: %+v", n, s)
	}
}

// A set that is full takes more once it was cleared, so an act that found it full is tried again.
func TestSettledTriesAgainWhatFoundItFull(t *testing.T) {
	var list []impl.Act
	for seq := 1; seq <= impl.MostParts; seq++ {
		list = append(list, impl.Act{Dot: impl.Dot{Rep: 0, Seq: seq}, Time: 1, Knew: []int{seq - 1, 0, 0}, Kind: impl.AcAdd, Obj: "s", Key: "k"})
	}
	over := impl.Act{Dot: impl.Dot{Rep: 1, Seq: 1}, Time: 1, Knew: []int{0, 0, 0}, Kind: impl.AcAdd, Obj: "s", Key: "j"}
	clears := impl.Act{Dot: impl.Dot{Rep: 2, Seq: 1}, Time: 1, Knew: []int{119, 0, 0}, Kind: impl.AcDel, Obj: "s", Key: "k"}
	s, n := impl.Settled(append(slices.Clone(list), over))
	if n != 120 || len(s.Lives) != 120 || !slices.Equal(s.Know, []int{120, 0, 0}) {
		t.Errorf("Settled did %d of too many: %v", n, s.Know)
	}
	s, n = impl.Settled(append(slices.Clone(list), over, clears))
	want := impl.State{Know: []int{120, 1, 1}, Lives: []impl.Live{
		{Obj: "s", Key: "k", Dot: impl.Dot{Rep: 0, Seq: 120}},
		{Obj: "s", Key: "j", Dot: impl.Dot{Rep: 1, Seq: 1}},
	}}
	if n != 122 || !impl.SameState(s, want) {
		t.Errorf("Settled did %d: %+v", n, s)
	}
}

func textsOf(s impl.State) []string {
	var out []string
	for _, p := range s.Tallies {
		out = append(out, p.Obj)
	}
	for _, p := range s.Lives {
		out = append(out, p.Obj, p.Key)
	}
	for _, p := range s.Cells {
		out = append(out, p.Obj)
	}
	return out
}

func TestTextsOfWhatWasDoneAreNew(t *testing.T) {
	// Texts of one byte may stand in memory that all of the program has; these are longer.
	obj, key := strings.Repeat("ma", 3), strings.Repeat("ky", 3)
	s := changedState(someState(), func(s *impl.State) {
		for i := range s.Lives {
			s.Lives[i].Obj, s.Lives[i].Key = obj, key
		}
		for i := range s.Cells {
			s.Cells[i].Obj, s.Cells[i].Ref = obj, impl.Dot{}
		}
		s.Tallies = []impl.Tally{{Obj: obj, Rep: 1}}
	})
	wrong := changedState(s, func(s *impl.State) { s.Know[0] = -1 })
	acts := []impl.Act{
		counts(s, 0, obj, 1),
		keyed(s, 0, impl.AcAdd, obj, key, 0),
		keyed(s, 0, impl.AcDel, obj, key, 0),
		keyed(s, 0, impl.AcPut, obj, key, 3),
		keyed(s, 0, impl.AcDrop, obj, key, 0),
		inserts(s, 0, obj, 3, 20, impl.Dot{}),
		cuts(s, 0, obj, s.Cells[0].Dot),
		{},
	}
	for _, a := range acts {
		first := changedAct(a, func(a *impl.Act) { a.Dot.Seq, a.Knew = 1, []int{0, 0, 0} })
		done, _ := impl.DoAct(s, a)
		refused, _ := impl.DoAct(wrong, a)
		all, _ := impl.DoAll(s, []impl.Act{a, a})
		settled, _ := impl.Settled([]impl.Act{first})
		for _, got := range []impl.State{done, refused, all, settled} {
			for _, text := range textsOf(got) {
				if sharesMemory(text, obj) || sharesMemory(text, key) {
					t.Fatalf("a text of what was done by kind %d stands in an argument", a.Kind)
				}
			}
		}
	}
}

func TestNumbersFarOffAreRefused(t *testing.T) {
	for _, far := range []int{math.MinInt, -1, math.MaxInt} {
		for _, change := range []func(a *impl.Act){
			func(a *impl.Act) { a.Dot.Rep = far },
			func(a *impl.Act) { a.Dot.Seq = far },
			func(a *impl.Act) { a.Kind = far },
			func(a *impl.Act) { a.Knew[0] = far },
			func(a *impl.Act) { a.Ref.Rep = far },
			func(a *impl.Act) { a.Ref.Seq = far },
		} {
			a := changedAct(inserts(someState(), 1, "r", 3, 20, impl.Dot{Rep: 0, Seq: 4}), change)
			wantRefused(t, "far off", someState(), a, impl.EdForm)
		}
	}
}
