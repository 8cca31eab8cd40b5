package tests

import (
	"math"
	"math/rand"
	"reflect"
	"slices"
	"strconv"
	"strings"
	"testing"
	"unsafe"

	"loop.example/g00463/impl"
)

func unitOf(a impl.Act) impl.Unit { return impl.Unit{Act: a} }

func batchOf(d impl.Delta) impl.Unit { return impl.Unit{Batch: true, Delta: d} }

func ownUnit(u impl.Unit) impl.Unit {
	return impl.Unit{Batch: u.Batch, Act: ownAct(u.Act), Delta: ownDelta(u.Delta)}
}

func changedUnit(u impl.Unit, change func(u *impl.Unit)) impl.Unit {
	u = ownUnit(u)
	change(&u)
	return u
}

func ownUnits(list []impl.Unit) []impl.Unit {
	out := []impl.Unit{}
	for _, u := range list {
		out = append(out, ownUnit(u))
	}
	return out
}

func ownLog(l impl.Log) impl.Log {
	return impl.Log{Rep: l.Rep, Time: l.Time, State: ownState(l.State), Units: ownUnits(l.Units), Waits: ownUnits(l.Waits)}
}

func changedLog(l impl.Log, change func(l *impl.Log)) impl.Log {
	l = ownLog(l)
	change(&l)
	return l
}

func roomyUnit(u impl.Unit) impl.Unit {
	u.Act.Knew = append(slices.Clone(u.Act.Knew), -7, -8)[:len(u.Act.Knew)]
	u.Delta = roomyDelta(u.Delta)
	return u
}

func roomyUnits(list []impl.Unit) []impl.Unit {
	out := make([]impl.Unit, 0, len(list)+2)
	for _, u := range list {
		out = append(out, roomyUnit(u))
	}
	return append(out, unitOf(impl.Act{Obj: "room"}), batchOf(impl.Delta{Base: []int{-8}}))[:len(list)]
}

// roomyLog has the same lists with room behind each, in which something stands that must stay.
func roomyLog(l impl.Log) impl.Log {
	return impl.Log{Rep: l.Rep, Time: l.Time, State: roomyState(l.State), Units: roomyUnits(l.Units), Waits: roomyUnits(l.Waits)}
}

func wholeUnit(u impl.Unit) impl.Unit {
	u.Act.Knew = slices.Clone(u.Act.Knew[:cap(u.Act.Knew)])
	u.Delta = wholeDelta(u.Delta)
	return u
}

func wholeUnits(list []impl.Unit) []impl.Unit {
	out := []impl.Unit{}
	for _, u := range list[:cap(list)] {
		out = append(out, wholeUnit(u))
	}
	return out
}

// wholeLog takes the room behind the lists with them.
func wholeLog(l impl.Log) impl.Log {
	return impl.Log{Rep: l.Rep, Time: l.Time, State: whole(l.State), Units: wholeUnits(l.Units), Waits: wholeUnits(l.Waits)}
}

func writeOverUnit(u impl.Unit) {
	for i := range u.Act.Knew[:cap(u.Act.Knew)] {
		u.Act.Knew[:cap(u.Act.Knew)][i] = 77
	}
	writeOverDelta(u.Delta)
}

func writeOverUnits(list []impl.Unit) {
	list = list[:cap(list)]
	for i, u := range list {
		writeOverUnit(u)
		list[i] = unitOf(impl.Act{Obj: "written"})
	}
}

// writeOverLog leaves nothing of the lists as it was, nor of the room behind them.
func writeOverLog(l impl.Log) {
	writeOver(l.State)
	writeOverUnits(l.Units)
	writeOverUnits(l.Waits)
}

func sameUnits(a, b []impl.Unit) bool {
	return reflect.DeepEqual(ownUnits(a), ownUnits(b))
}

func sameLog(a, b impl.Log) bool {
	return reflect.DeepEqual(ownLog(a), ownLog(b))
}

// stretch is where a list, with the room behind it, or a text lies in memory.
type stretch struct {
	from, to uintptr
	list     bool
}

// stretchesOf leaves out texts of one byte: these may stand in memory that all of the program has.
func stretchesOf(values ...any) []stretch {
	var out []stretch
	var walk func(v reflect.Value)
	walk = func(v reflect.Value) {
		switch v.Kind() {
		case reflect.Struct:
			for i := range v.NumField() {
				walk(v.Field(i))
			}
		case reflect.String:
			if s := v.String(); len(s) > 1 {
				from := uintptr(unsafe.Pointer(unsafe.StringData(s)))
				out = append(out, stretch{from, from + uintptr(len(s)), false})
			}
		case reflect.Slice:
			if v.Cap() > 0 {
				out = append(out, stretch{v.Pointer(), v.Pointer() + uintptr(v.Cap())*v.Type().Elem().Size(), true})
			}
			for i := range v.Cap() {
				walk(v.Slice(0, v.Cap()).Index(i))
			}
		}
	}
	for _, value := range values {
		walk(reflect.ValueOf(value))
	}
	slices.SortFunc(out, func(a, b stretch) int { return int(int64(a.from) - int64(b.from)) })
	return out
}

func meet(a, b stretch) bool { return a.from < b.to && b.from < a.to }

// wantApart asks that no two lists of an answer share memory, and none of its lists and texts any with what was handed in.
func wantApart(t *testing.T, name string, answer []any, given ...any) {
	t.Helper()
	mine, others := stretchesOf(answer...), stretchesOf(given...)
	var last *stretch
	for i, s := range mine {
		if s.list && last != nil && meet(*last, s) {
			t.Fatalf("%s: two lists of one answer share memory", name)
		}
		if s.list {
			last = &mine[i]
		}
		at, _ := slices.BinarySearchFunc(others, s.from, func(o stretch, from uintptr) int {
			if o.to <= from {
				return -1
			}
			return 1
		})
		if at < len(others) && meet(others[at], s) {
			t.Fatalf("%s: an answer shares memory with an argument", name)
		}
	}
}

// plainlyRightUnit leaves numbers and names to ActOk, which is asked elsewhere.
func plainlyRightUnit(u impl.Unit) bool {
	nothing := ownUnit(impl.Unit{})
	if own := ownUnit(u); own.Batch {
		return plainlyRightDelta(own.Delta) && reflect.DeepEqual(own.Act, nothing.Act)
	} else {
		return impl.ActOk(own.Act) && reflect.DeepEqual(own.Delta, nothing.Delta)
	}
}

func plainlyDoneUnit(s impl.State, u impl.Unit) (impl.State, int) {
	if u.Batch {
		return plainlyTaken(s, u.Delta)
	}
	return plainlyDone(s, u.Act)
}

func plainTime(u impl.Unit) int {
	time := u.Act.Time
	for _, c := range u.Delta.Cells {
		time = max(time, c.Time)
	}
	return time
}

// plainlyRightLog goes by the words of the document.
func plainlyRightLog(l impl.Log) bool {
	if l.Rep < 0 || l.Rep > 2 || l.Time < 0 || l.Time > 10000 || len(l.Units) > 60 || len(l.Waits) > 6 {
		return false
	}
	s, code := impl.StateNew(), 0
	for _, u := range l.Units {
		if !plainlyRightUnit(u) || plainTime(u) > l.Time {
			return false
		}
		if s, code = plainlyDoneUnit(s, u); code != 0 {
			return false
		}
	}
	for _, c := range s.Cells {
		if c.Time > l.Time {
			return false
		}
	}
	for _, u := range l.Waits {
		if !plainlyRightUnit(u) {
			return false
		}
	}
	return impl.SameState(s, l.State)
}

// grown is a log behind one more unit, whatever is to be said of it.
func grown(l impl.Log, s impl.State, u impl.Unit) impl.Log {
	l.State, l.Units, l.Time = s, append(slices.Clone(l.Units), u), max(l.Time, plainTime(u))
	return l
}

// plainlyHeard goes by the words of the document, and takes each Wait out on its own.
func plainlyHeard(l impl.Log, u impl.Unit) (impl.Log, int) {
	l = ownLog(l)
	if !plainlyRightLog(l) || !plainlyRightUnit(u) {
		return l, 3
	}
	s, code := plainlyDoneUnit(l.State, u)
	if code != 0 {
		there := slices.ContainsFunc(l.Waits, func(w impl.Unit) bool { return reflect.DeepEqual(ownUnit(w), ownUnit(u)) })
		if code == 2 && len(l.Waits) < 6 && !there {
			l.Waits = append(l.Waits, u)
		}
		return l, code
	}
	if len(l.Units) >= 60 {
		return l, 4
	}
	l = grown(l, s, u)
	for did := true; did; {
		did = false
		for i := 0; i < len(l.Waits); i++ {
			s, code := plainlyDoneUnit(l.State, l.Waits[i])
			if code > 1 || code == 0 && len(l.Units) >= 60 {
				continue
			}
			if code == 0 {
				l, did = grown(l, s, l.Waits[i]), true
			}
			l.Waits = slices.Delete(l.Waits, i, i+1)
			i--
		}
	}
	return l, 0
}

func plainlyEdited(l impl.Log, e impl.Edit) (impl.Log, impl.Unit, int) {
	l = ownLog(l)
	if !plainlyRightLog(l) {
		return l, impl.Unit{}, 3
	}
	a, code := plainActOf(l.State, l.Rep, l.Time+1, e)
	if code != 0 {
		return l, impl.Unit{}, code
	}
	s, code := plainlyDone(l.State, a)
	if code == 0 && len(l.Units) >= 60 {
		code = 4
	}
	if code != 0 {
		return l, impl.Unit{}, code
	}
	return grown(l, s, unitOf(a)), unitOf(a), 0
}

func wantLogOk(t *testing.T, name string, l impl.Log, want bool) {
	t.Helper()
	l = roomyLog(l)
	before := wholeLog(l)
	if got := impl.LogOk(l); got != want {
		t.Errorf("%s: LogOk = %v of %+v", name, got, l)
	}
	if !reflect.DeepEqual(wholeLog(l), before) {
		t.Errorf("%s: LogOk wrote into its argument: %+v", name, wholeLog(l))
	}
}

// wantHeard asks for the log and the code, and that neither the call nor a write into its answer comes to what was handed in or to a later answer.
func wantHeard(t *testing.T, name string, l impl.Log, u impl.Unit, want impl.Log, code int) {
	t.Helper()
	l, u, want = roomyLog(l), roomyUnit(u), ownLog(want)
	logBefore, unitBefore := wholeLog(l), wholeUnit(u)
	for range 2 {
		got, told := impl.Heard(l, u)
		if told != code || !sameLog(got, want) {
			t.Errorf("%s: Heard told %d, not %d:\n%+v\nnot\n%+v\nof\n%+v\nand\n%+v", name, told, code, got, want, l, u)
		}
		if ok := impl.LogOk(got); ok != impl.LogOk(l) {
			t.Errorf("%s: LogOk is %v behind what was heard: %+v", name, ok, got)
		}
		wantApart(t, name, []any{got}, l, u)
		writeOverLog(got)
		if !reflect.DeepEqual(wholeLog(l), logBefore) || !reflect.DeepEqual(wholeUnit(u), unitBefore) {
			t.Fatalf("%s: the log or the unit was written into:\n%+v\n%+v", name, wholeLog(l), wholeUnit(u))
		}
	}
}

// wantNotHeard asks for the log as it was, beside the code.
func wantNotHeard(t *testing.T, name string, l impl.Log, u impl.Unit, code int) {
	t.Helper()
	wantHeard(t, name, l, u, l, code)
}

// hears is the log behind units that are heard, of each of which what the words of the document say is asked, and this code.
func hears(t *testing.T, l impl.Log, code int, units ...impl.Unit) impl.Log {
	t.Helper()
	for i, u := range units {
		want, told := plainlyHeard(l, u)
		if told != code {
			t.Fatalf("unit %d, %+v, is told %d, not %d", i, u, told, code)
		}
		wantHeard(t, "unit "+strconv.Itoa(i), l, u, want, code)
		l = want
	}
	return l
}

// wantEdited asks as wantHeard does; beside a code that is not 0 the unit is nothing.
func wantEdited(t *testing.T, name string, l impl.Log, e impl.Edit, want impl.Log, wantUnit impl.Unit, code int) {
	t.Helper()
	l, want = roomyLog(l), ownLog(want)
	before := wholeLog(l)
	for range 2 {
		got, u, told := impl.Edited(l, e)
		if told != code || !sameLog(got, want) || !reflect.DeepEqual(ownUnit(u), ownUnit(wantUnit)) {
			t.Errorf("%s: Edited told %d, not %d:\n%+v\nnot\n%+v\nunit %+v\nnot %+v\nof\n%+v\nand %+v", name, told, code, got, want, u, wantUnit, l, e)
		}
		if ok := impl.LogOk(got); ok != impl.LogOk(l) {
			t.Errorf("%s: LogOk is %v behind an edit: %+v", name, ok, got)
		}
		wantApart(t, name, []any{got, u}, l, e)
		writeOverUnit(u)
		if !sameLog(got, want) {
			t.Fatalf("%s: a write into the unit came to the log: %+v", name, got)
		}
		writeOverLog(got)
		if !reflect.DeepEqual(wholeLog(l), before) {
			t.Fatalf("%s: the log was written into: %+v", name, wholeLog(l))
		}
	}
}

func wantNotEdited(t *testing.T, name string, l impl.Log, e impl.Edit, code int) {
	t.Helper()
	wantEdited(t, name, l, e, l, impl.Unit{}, code)
}

// edits is the log behind edits that are done, and the units that they became.
func edits(t *testing.T, l impl.Log, list ...impl.Edit) (impl.Log, []impl.Unit) {
	t.Helper()
	var units []impl.Unit
	for i, e := range list {
		want, u, code := plainlyEdited(l, e)
		if code != 0 {
			t.Fatalf("edit %d, %+v, is told %d", i, e, code)
		}
		wantEdited(t, "edit "+strconv.Itoa(i), l, e, want, u, 0)
		l, units = want, append(units, u)
	}
	return l, units
}

// edited has no edit that needs another one's place, but for the row's.
func edited() []impl.Edit {
	return []impl.Edit{
		count("c", 5), count("c", 999999), keyEdit(impl.AcAdd, "s", "k", 0), keyEdit(impl.AcAdd, "s", "j", 0), keyEdit(impl.AcDel, "s", "k", 0),
		keyEdit(impl.AcPut, "m", "x", 8), keyEdit(impl.AcPut, "m", "x", 9), keyEdit(impl.AcPut, "m", "y", 1), keyEdit(impl.AcDrop, "m", "y", 0),
		ins("r", 0, 10), ins("r", 1, 20), ins("r", 1, 15), cut("r", 1), ins("r", 2, 30), keyEdit(impl.AcDel, "s", "none", 0),
	}
}

// pastOf is a log of rep that did edited().
func pastOf(t *testing.T, rep int) impl.Log {
	t.Helper()
	l, _ := edits(t, impl.LogNew(rep), edited()...)
	return l
}

// countsOf are so many counts of rep, each behind the one ahead of it, with Times from 1 on.
func countsOf(rep, many int) []impl.Unit {
	var out []impl.Unit
	for seq := 1; seq <= many; seq++ {
		a := impl.Act{Dot: dot(rep, seq), Time: seq, Knew: []int{0, 0, 0}, Kind: impl.AcCount, Obj: "c", Val: 1}
		a.Knew[rep] = seq - 1
		out = append(out, unitOf(a))
	}
	return out
}

// logOf did these units; it is made without the program, but for what a state is behind an act or a Delta.
func logOf(t *testing.T, rep int, units ...impl.Unit) impl.Log {
	t.Helper()
	l := impl.Log{Rep: rep, State: impl.StateNew()}
	for i, u := range units {
		s, code := plainlyDoneUnit(l.State, u)
		if code != 0 {
			t.Fatalf("unit %d is told %d: %+v", i, code, u)
		}
		l = grown(l, s, u)
	}
	return l
}

func waiting(l impl.Log, units ...impl.Unit) impl.Log {
	return changedLog(l, func(l *impl.Log) { l.Waits = ownUnits(units) })
}

func TestLimitsOfLogs(t *testing.T) {
	if impl.MaxUnits != 60 || impl.MaxWaits != 6 {
		t.Errorf("MaxUnits = %d, MaxWaits = %d", impl.MaxUnits, impl.MaxWaits)
	}
}

func TestLogNew(t *testing.T) {
	for _, rep := range []int{0, 1, impl.Reps - 1, -1, impl.Reps, math.MinInt, math.MaxInt} {
		for range 2 {
			l := impl.LogNew(rep)
			if !sameLog(l, impl.Log{Rep: rep, State: impl.State{Know: []int{0, 0, 0}}}) {
				t.Errorf("LogNew(%d) = %+v", rep, l)
			}
			right := rep >= 0 && rep < 3
			wantLogOk(t, "new", l, right)
			if !right {
				wantNotEdited(t, "no replica", l, count("c", 1), impl.EdForm)
				wantNotHeard(t, "no replica", l, countsOf(0, 1)[0], impl.EdForm)
				wantNotHeard(t, "no replica", l, countsOf(0, 2)[1], impl.EdForm)
			}
			writeOverLog(l)
		}
	}
}

func TestEditsOfAllKindsInALog(t *testing.T) {
	for rep := range impl.Reps {
		l := impl.LogNew(rep)
		s, time := impl.StateNew(), 0
		for i, e := range edited() {
			a, _ := impl.ActOf(s, rep, time+1, e)
			got, u, code := impl.Edited(l, e)
			if code != 0 || u.Batch || !impl.SameAct(u.Act, a) || len(got.Units) != i+1 || !impl.SameUnit(got.Units[i], u) {
				t.Fatalf("edit %d of %d told %d: %+v", i, rep, code, u)
			}
			if !sameUnits(got.Units[:i], l.Units) || len(got.Waits) != 0 {
				t.Errorf("edit %d of %d: the units ahead are not as they were", i, rep)
			}
			s, _ = impl.DoUnit(s, u)
			time++
			if got.Rep != rep || got.Time != time || !impl.SameState(got.State, s) || !impl.LogOk(got) {
				t.Fatalf("behind edit %d of %d: %+v", i, rep, got)
			}
			l = got
		}
		// What is read, written out by hand.
		if n := impl.CountOf(l.State, "c"); n != 4 {
			t.Errorf("the counter is %d", n)
		}
		if set := impl.SetOf(l.State, "s"); !slices.Equal(set, []string{"j"}) {
			t.Errorf("the set is %v", set)
		}
		if keys, vals := impl.KeysOf(l.State, "m"), impl.MapOf(l.State, "m", "x"); !slices.Equal(keys, []string{"x"}) || !slices.Equal(vals, []int{9}) {
			t.Errorf("the map is %v, %v", keys, vals)
		}
		if row := impl.RowOf(l.State, "r"); !slices.Equal(row, []int{10, 20, 30}) {
			t.Errorf("the row is %v", row)
		}
		if !sameLog(l, pastOf(t, rep)) {
			t.Errorf("the same edits came to another log")
		}
	}
}

func TestUnitsHeardInOrder(t *testing.T) {
	first, units := edits(t, impl.LogNew(0), edited()...)
	for rep := range impl.Reps {
		l := impl.LogNew(rep)
		for i, u := range units {
			l = hears(t, l, 0, u)
			l = hears(t, l, impl.EdOld, u, units[0])
			if l.Time != i+1 || !sameUnits(l.Units, units[:i+1]) || len(l.Waits) != 0 || !impl.LogOk(l) {
				t.Fatalf("behind unit %d: %+v", i, l)
			}
		}
		if !impl.SameState(l.State, first.State) || l.Time != first.Time || l.Rep != rep {
			t.Errorf("what was heard came to another state: %+v", l)
		}
	}
	// Both go on, and tell each other.
	second := hears(t, impl.LogNew(1), 0, units...)
	second, mine := edits(t, second, count("c", 1), cut("r", 0), keyEdit(impl.AcPut, "m", "x", 3))
	first, others := edits(t, first, keyEdit(impl.AcPut, "m", "x", 4), ins("r", 0, 5))
	second, first = hears(t, second, 0, others...), hears(t, first, 0, mine...)
	if !impl.SameState(first.State, second.State) || first.Time != second.Time || sameUnits(first.Units, second.Units) {
		t.Errorf("two that heard each other:\n%+v\n%+v", first, second)
	}
	if vals := impl.MapOf(first.State, "m", "x"); !slices.Equal(vals, []int{3, 4}) {
		t.Errorf("beside each other both put %v", vals)
	}
}

func TestUnitsHeardTurnedRound(t *testing.T) {
	whole, units := edits(t, impl.LogNew(2), edited()...)
	for many := 2; many <= impl.MaxWaits+1; many++ {
		ahead := hears(t, impl.LogNew(1), 0, units[:15-many]...)
		last := slices.Clone(units[15-many:])
		l := ahead
		for i := many - 1; i > 0; i-- {
			l = hears(t, l, impl.EdEarly, last[i])
			if len(l.Waits) != many-i || !impl.SameUnit(l.Waits[many-i-1], last[i]) || !sameLog(waiting(l), ahead) {
				t.Fatalf("early unit %d: %+v", i, l)
			}
		}
		l = hears(t, l, 0, last[0])
		if !sameUnits(l.Units, units) || len(l.Waits) != 0 || !impl.SameState(l.State, whole.State) || l.Time != 15 {
			t.Errorf("the last %d turned round: %+v", many, l)
		}
	}
}

func TestSevenUnitsThatComeEarly(t *testing.T) {
	units := countsOf(0, 9)
	l := impl.LogNew(1)
	for i := 8; i > 2; i-- {
		l = hears(t, l, impl.EdEarly, units[i])
	}
	if len(l.Waits) != impl.MaxWaits {
		t.Fatalf("%d wait", len(l.Waits))
	}
	wantNotHeard(t, "the seventh", l, units[2], impl.EdEarly)
	wantNotHeard(t, "the eighth", l, units[1], impl.EdEarly)
	for _, u := range units[3:] {
		wantNotHeard(t, "one that waits", l, u, impl.EdEarly)
	}
	l = hears(t, l, 0, units[0], units[1])
	if len(l.Waits) != impl.MaxWaits || len(l.Units) != 2 {
		t.Errorf("without the third one: %+v", l)
	}
	l = hears(t, l, 0, units[2])
	if len(l.Waits) != 0 || !sameUnits(l.Units, units) || l.Time != 9 {
		t.Errorf("behind the third one: %+v", l)
	}
}

func TestUnitsThatWaitAlready(t *testing.T) {
	units := countsOf(0, 4)
	batch := batchOf(impl.Delta{Base: []int{0, 2, 0}, Know: []int{0, 3, 0}})
	for _, u := range []impl.Unit{units[1], units[3], batch} {
		l := hears(t, impl.LogNew(1), impl.EdEarly, u)
		wantNotHeard(t, "again", l, u, impl.EdEarly)
		l = hears(t, l, impl.EdEarly, units[2])
		wantNotHeard(t, "again, behind another one", l, u, impl.EdEarly)
		wantNotHeard(t, "the other one again", l, units[2], impl.EdEarly)
		if len(l.Waits) != 2 {
			t.Errorf("%d wait", len(l.Waits))
		}
	}
	// One that is unlike in one thing is another one.
	l := hears(t, impl.LogNew(1), impl.EdEarly, units[1], batch)
	l = hears(t, l, impl.EdEarly,
		changedUnit(units[1], func(u *impl.Unit) { u.Act.Val = 2 }),
		changedUnit(units[1], func(u *impl.Unit) { u.Act.Time = 3 }),
		changedUnit(batch, func(u *impl.Unit) { u.Delta.Know[1] = 4 }),
		changedUnit(batch, func(u *impl.Unit) { u.Delta.Dead = []impl.Dot{dot(1, 2)} }))
	if len(l.Waits) != 6 {
		t.Errorf("%d wait", len(l.Waits))
	}
}

// Whoever waits is asked in order, and all are asked again as long as one was done.
func TestWaitsAreDoneInTheirOrder(t *testing.T) {
	act := func(rep, seq int, knew ...int) impl.Unit {
		return unitOf(impl.Act{Dot: dot(rep, seq), Time: 1, Knew: knew, Kind: impl.AcCount, Obj: "c", Val: 1})
	}
	first, second := act(0, 1, 0, 0, 0), act(0, 2, 1, 0, 0)
	other, behind := act(1, 1, 1, 0, 0), act(1, 2, 1, 1, 0)
	third := act(2, 1, 1, 1, 0)
	far := act(2, 2, 9, 1, 1)
	l := hears(t, impl.LogNew(0), impl.EdEarly, behind, second, other, far, third)
	l = hears(t, l, 0, first)
	if want := []impl.Unit{first, second, other, third, behind}; !sameUnits(l.Units, want) || !sameUnits(l.Waits, []impl.Unit{far}) {
		t.Errorf("done were %+v, left %+v", l.Units, l.Waits)
	}
	l = hears(t, impl.LogNew(0), impl.EdEarly, third, behind, other, second)
	l = hears(t, l, 0, first)
	if want := []impl.Unit{first, other, second, third, behind}; !sameUnits(l.Units, want) || len(l.Waits) != 0 {
		t.Errorf("done were %+v, left %+v", l.Units, l.Waits)
	}
}

func TestWaitsThatAreOldGo(t *testing.T) {
	units := countsOf(0, 6)
	known := logOf(t, 0, units[:3]...)
	batch, _ := impl.DeltaOf(impl.StateNew(), known.State)
	// A batch knows what some wait for, and some that wait.
	l := hears(t, impl.LogNew(1), impl.EdEarly, units[1], units[4], units[2], units[3])
	l = hears(t, l, 0, batchOf(batch))
	if want := []impl.Unit{batchOf(batch), units[3], units[4]}; !sameUnits(l.Units, want) || len(l.Waits) != 0 {
		t.Errorf("behind a batch: %+v", l)
	}
	// A batch that waits is old when its acts came.
	more, _ := impl.DeltaOf(logOf(t, 0, units[:1]...).State, known.State)
	l = hears(t, impl.LogNew(1), impl.EdEarly, batchOf(more), units[2], units[1])
	l = hears(t, l, 0, units[0])
	if want := []impl.Unit{units[0], batchOf(more)}; !sameUnits(l.Units, want) || len(l.Waits) != 0 {
		t.Errorf("the batch first: %+v", l)
	}
	l = hears(t, impl.LogNew(1), impl.EdEarly, units[2], units[1], batchOf(more))
	l = hears(t, l, 0, units[0])
	if want := []impl.Unit{units[0], units[1], batchOf(more)}; !sameUnits(l.Units, want) || len(l.Waits) != 0 {
		t.Errorf("the batch last: %+v", l)
	}
	// Two of one Dot wait: the first one is done, the other one is old.
	other := changedUnit(units[1], func(u *impl.Unit) { u.Act.Val = 9 })
	l = hears(t, impl.LogNew(1), impl.EdEarly, other, units[1])
	l = hears(t, l, 0, units[0])
	if want := []impl.Unit{units[0], other}; !sameUnits(l.Units, want) || len(l.Waits) != 0 {
		t.Errorf("two of one Dot: %+v", l)
	}
	// Those that are old, or could be done, from the beginning on are looked at when one is done, and not before.
	made := waiting(known, units[0], units[3], units[3], units[1], units[5])
	wantLogOk(t, "old ones wait", made, true)
	wantNotHeard(t, "an old one", made, units[2], impl.EdOld)
	early := hears(t, made, impl.EdEarly, units[4])
	if !sameUnits(early.Waits, append(slices.Clone(made.Waits), units[4])) {
		t.Errorf("behind an early one: %+v", early.Waits)
	}
	l, own := edits(t, changedLog(made, func(l *impl.Log) { l.Rep = 1 }), count("d", 1))
	if !sameUnits(l.Waits, made.Waits) || len(l.Units) != 4 {
		t.Errorf("behind an edit: %+v", l)
	}
	l = hears(t, made, 0, own[0])
	if want := append(slices.Clone(known.Units), own[0], units[3]); !sameUnits(l.Units, want) || !sameUnits(l.Waits, units[5:]) {
		t.Errorf("behind one that was done: %+v", l)
	}
}

func TestWaitsOfAnotherCodeStay(t *testing.T) {
	none := impl.Dot{}
	act := func(rep, seq, time, kind int, obj, key string, ref impl.Dot, knew ...int) impl.Unit {
		return unitOf(impl.Act{Dot: dot(rep, seq), Time: time, Knew: knew, Kind: kind, Obj: obj, Key: key, Ref: ref})
	}
	first := act(0, 1, 5, impl.AcIns, "r", "", none, 0, 0, 0)
	for name, u := range map[string]impl.Unit{
		"no Cell of its Obj":  act(1, 1, 9, impl.AcCut, "q", "", dot(0, 1), 1, 0, 0),
		"a Time not above":    act(1, 1, 5, impl.AcIns, "r", "", dot(0, 1), 1, 0, 0),
		"a Delta of no Cell":  batchOf(impl.Delta{Base: []int{1, 0, 0}, Know: []int{1, 1, 0}, Cells: []impl.Cell{cell(1, 1, 9, dot(2, 5))}}),
		"a Cell of a Time":    batchOf(impl.Delta{Base: []int{1, 0, 0}, Know: []int{1, 1, 0}, Cells: []impl.Cell{cell(1, 1, 5, dot(0, 1))}}),
		"a Ref that is known": act(1, 2, 9, impl.AcIns, "r", "", dot(1, 1), 1, 1, 0),
	} {
		l := hears(t, impl.LogNew(2), impl.EdEarly, u)
		second := act(1, 1, 2, impl.AcCount, "c", "", none, 0, 0, 0)
		if name == "a Ref that is known" {
			l = hears(t, l, 0, second)
		}
		l = hears(t, l, 0, first)
		if !sameUnits(l.Waits, []impl.Unit{u}) {
			t.Errorf("%s: left are %+v", name, l.Waits)
		}
		wantNotHeard(t, name, l, u, impl.EdForm)
	}
	// A Wait that finds no room is done when there is some.
	full := impl.Delta{Base: []int{0, 0, 0}, Know: []int{120, 0, 0}}
	for seq := 1; seq <= 120; seq++ {
		full.Lives = append(full.Lives, impl.Live{Obj: "s", Key: "k", Dot: dot(0, seq)})
	}
	over := act(1, 1, 1, impl.AcAdd, "s", "j", none, 1, 0, 0)
	l := hears(t, impl.LogNew(2), impl.EdEarly, over)
	l = hears(t, l, 0, batchOf(full))
	if !sameUnits(l.Waits, []impl.Unit{over}) {
		t.Errorf("no room: %+v", l.Waits)
	}
	wantNotHeard(t, "no room", l, over, impl.EdFull)
	wantNotEdited(t, "no room for an edit", l, keyEdit(impl.AcAdd, "t", "k", 0), impl.EdFull)
	wantNotEdited(t, "no room for an edit", l, keyEdit(impl.AcPut, "m", "k", 0), impl.EdFull)
	clears := act(0, 121, 1, impl.AcDel, "s", "k", none, 120, 0, 0)
	l = hears(t, l, 0, clears)
	if len(l.Waits) != 0 || !sameUnits(l.Units, []impl.Unit{batchOf(full), clears, over}) || len(l.State.Lives) != 1 {
		t.Errorf("room was made: %+v", l)
	}
}

func TestSixtyUnits(t *testing.T) {
	units := countsOf(0, 62)
	almost := hears(t, impl.LogNew(0), 0, units[:59]...)
	full := hears(t, almost, 0, units[59])
	wantLogOk(t, "60 units", full, true)
	byEdit, _ := edits(t, almost, count("c", 1))
	if !sameLog(full, byEdit) || len(full.Units) != impl.MaxUnits {
		t.Errorf("60 units: %+v", byEdit)
	}
	for _, e := range editsByKind()[:5] {
		wantNotEdited(t, "an edit", full, e, impl.EdFull)
	}
	wantNotEdited(t, "a wrong edit", full, impl.Edit{}, impl.EdForm)
	wantNotEdited(t, "no such place", full, cut("r", 0), impl.EdNone)
	wantNotHeard(t, "the next one", full, units[60], impl.EdFull)
	wantNotHeard(t, "a known one", full, units[5], impl.EdOld)
	wantNotHeard(t, "a wrong one", full, impl.Unit{}, impl.EdForm)
	cutNone := unitOf(impl.Act{Dot: dot(1, 1), Time: 1, Knew: []int{5, 0, 0}, Kind: impl.AcCut, Obj: "r", Ref: dot(0, 1)})
	wantNotHeard(t, "one of no Cell", full, cutNone, impl.EdForm)
	l := hears(t, full, impl.EdEarly, units[61])
	if !sameUnits(l.Waits, units[61:]) {
		t.Errorf("an early one: %+v", l.Waits)
	}
	wantNotHeard(t, "the next one, one that waits", l, units[60], impl.EdFull)
	for _, batch := range []impl.Delta{
		{Base: []int{59, 0, 0}, Know: []int{61, 0, 0}},
		{Base: []int{0, 0, 0}, Know: []int{0, 1, 0}, Cells: []impl.Cell{cell(1, 1, 70, impl.Dot{})}},
	} {
		wantNotHeard(t, "a batch", full, batchOf(batch), impl.EdFull)
		hears(t, almost, 0, batchOf(batch))
	}
}

func TestWaitsThatFillTheRoom(t *testing.T) {
	units := countsOf(0, 64)
	for ahead := 55; ahead <= 59; ahead++ {
		l := hears(t, impl.LogNew(1), 0, units[:ahead]...)
		l = hears(t, l, impl.EdEarly, units[ahead+1], units[ahead+3], units[ahead+2], units[ahead+4])
		l = hears(t, l, 0, units[ahead])
		many := min(ahead+5, impl.MaxUnits)
		if !sameUnits(l.Units, units[:many]) || len(l.Waits) != ahead+5-many || l.Time != many {
			t.Errorf("%d units and 4 that wait: %d, %d", ahead, len(l.Units), len(l.Waits))
		}
		if len(l.Waits) > 0 {
			wantNotHeard(t, "the next one", l, units[many], impl.EdFull)
		}
	}
	// What is old by then goes, though there is no room any more: ahead of the last one that was done, and behind it.
	other := changedUnit(units[58], func(u *impl.Unit) { u.Act.Val = 3 })
	more := changedUnit(units[59], func(u *impl.Unit) { u.Act.Val = 4 })
	l := waiting(logOf(t, 1, units[:57]...), more, units[3], units[58], other, units[59], units[60])
	l = hears(t, l, 0, units[57])
	if !sameUnits(l.Units, append(slices.Clone(units[:59]), units[59])) || !sameUnits(l.Waits, units[60:61]) {
		t.Errorf("some old ones: %d, %+v", len(l.Units), l.Waits)
	}
	l = waiting(logOf(t, 1, units[:58]...), other, more, units[59], units[61])
	l = hears(t, l, 0, units[58])
	if !sameUnits(l.Units, append(slices.Clone(units[:59]), more)) || !sameUnits(l.Waits, units[61:62]) {
		t.Errorf("old ones at the end: %d, %+v", len(l.Units), l.Waits)
	}
}

func TestTimesOfALog(t *testing.T) {
	at := func(rep, time int) impl.Unit {
		return unitOf(impl.Act{Dot: dot(rep, 1), Time: time, Knew: []int{0, 0, 0}, Kind: impl.AcCount, Obj: "c"})
	}
	l := impl.LogNew(0)
	for _, row := range []struct{ rep, time, want int }{{1, 7, 7}, {2, 3, 7}, {0, 8, 8}} {
		l = hears(t, l, 0, at(row.rep, row.time))
		if l.Time != row.want {
			t.Errorf("behind Time %d: %d", row.time, l.Time)
		}
	}
	next, units := edits(t, l, ins("r", 0, 1))
	if next.Time != 9 || units[0].Act.Time != 9 {
		t.Errorf("the next Time is %d, %d", next.Time, units[0].Act.Time)
	}
	same := hears(t, hears(t, impl.LogNew(0), 0, at(1, 7)), 0, at(2, 7))
	if same.Time != 7 {
		t.Errorf("the same Time twice is %d", same.Time)
	}
	// A log may tell a later Time than any of its units.
	for _, time := range []int{9, 10, 5000, 9998, 9999, 10000} {
		late := changedLog(next, func(l *impl.Log) { l.Time = time })
		wantLogOk(t, "later", late, true)
		for _, e := range []impl.Edit{count("c", 1), ins("r", 1, 5), cut("r", 0)} {
			if time == 10000 {
				wantNotEdited(t, "behind the last Time", late, e, impl.EdForm)
				continue
			}
			got, u := edits(t, late, e)
			if got.Time != time+1 || u[0].Act.Time != time+1 {
				t.Errorf("behind Time %d: %d", time, got.Time)
			}
			if time == 9999 {
				wantNotEdited(t, "behind the last Time, by an edit", got, e, impl.EdForm)
			}
		}
		wantNotEdited(t, "a wrong edit", late, impl.Edit{Kind: 8, Obj: "c"}, impl.EdForm)
	}
	last := hears(t, impl.LogNew(0), 0, at(1, 10000), at(2, 1))
	if last.Time != 10000 {
		t.Errorf("the last Time heard is %d", last.Time)
	}
	wantNotEdited(t, "behind the last Time heard", last, count("c", 1), impl.EdForm)
	// A Wait that is done has a Time, too.
	l = hears(t, impl.LogNew(2), impl.EdEarly, unitOf(impl.Act{Dot: dot(0, 2), Time: 44, Knew: []int{1, 0, 0}, Kind: impl.AcCount, Obj: "c"}))
	if l.Time != 0 {
		t.Errorf("Time is %d of one that waits", l.Time)
	}
	if l = hears(t, l, 0, at(0, 3)); l.Time != 44 {
		t.Errorf("Time is %d behind one that waited", l.Time)
	}
}

func TestTimesOfBatches(t *testing.T) {
	base := logOf(t, 0, countsOf(0, 5)...)
	none := impl.Dot{}
	for _, row := range []struct {
		name  string
		cells []impl.Cell
		want  int
	}{
		{"no Cells", nil, 5},
		{"below", []impl.Cell{cell(1, 1, 4, none)}, 5},
		{"as it is", []impl.Cell{cell(1, 1, 5, none)}, 5},
		{"above", []impl.Cell{cell(1, 1, 6, none)}, 6},
		{"above and below", []impl.Cell{cell(1, 1, 3, none), cell(1, 2, 9, none), cell(1, 3, 4, none)}, 9},
		{"the last one above", []impl.Cell{cell(1, 1, 3, none), cell(1, 3, 8, dot(1, 1))}, 8},
		{"the first one above", []impl.Cell{cell(1, 1, 30, none), cell(1, 3, 8, none)}, 30},
		{"the last Time", []impl.Cell{cell(1, 1, 10000, none)}, 10000},
	} {
		batch := batchOf(impl.Delta{Base: []int{2, 0, 0}, Know: []int{2, 3, 0}, Cells: row.cells})
		l := hears(t, base, 0, batch)
		if l.Time != row.want {
			t.Errorf("%s: Time is %d, not %d", row.name, l.Time, row.want)
		}
		wantLogOk(t, row.name, l, true)
		wantLogOk(t, row.name+", a lesser Time", changedLog(l, func(l *impl.Log) { l.Time-- }), false)
	}
	// Of two Cells with one Dot that of the state stays, but the batch has the Time of its own one.
	l := hears(t, base, 0, unitOf(impl.Act{Dot: dot(0, 6), Time: 6, Knew: []int{5, 0, 0}, Kind: impl.AcIns, Obj: "r"}))
	l = hears(t, l, 0, batchOf(impl.Delta{Base: []int{6, 0, 0}, Know: []int{6, 1, 0}, Cells: []impl.Cell{cell(0, 6, 50, none)}}))
	if l.Time != 50 || impl.TimeOf(l.State) != 6 {
		t.Errorf("Time is %d, that of the state %d", l.Time, impl.TimeOf(l.State))
	}
	wantLogOk(t, "below that of a batch", changedLog(l, func(l *impl.Log) { l.Time = 49 }), false)
}

func TestBatchesHeard(t *testing.T) {
	base, gone := parting(t)
	first, ok := impl.DeltaOf(impl.StateNew(), base)
	if !ok {
		t.Fatal("no Delta")
	}
	for i, c := range gone {
		batch, _ := impl.DeltaOf(base, c)
		l := hears(t, impl.LogNew(i), 0, batchOf(first), batchOf(batch))
		if !impl.SameState(l.State, c) || l.Time != impl.TimeOf(c) || len(l.Units) != 2 {
			t.Errorf("behind batch %d: %+v", i, l)
		}
		wantNotHeard(t, "again", l, batchOf(batch), impl.EdOld)
		wantNotHeard(t, "the first one again", l, batchOf(first), impl.EdOld)
		// Turned round one waits; both are heard otherwise in one.
		turned := hears(t, hears(t, impl.LogNew(i), impl.EdEarly, batchOf(batch)), 0, batchOf(first))
		if !sameLog(turned, l) {
			t.Errorf("turned round batch %d: %+v", i, turned)
		}
		all, _ := impl.DeltaOf(impl.StateNew(), c)
		once := hears(t, impl.LogNew(i), 0, batchOf(all))
		if !impl.SameState(once.State, c) || once.Time != l.Time || len(once.Units) != 1 {
			t.Errorf("in one batch %d: %+v", i, once)
		}
		wantNotHeard(t, "known already", once, batchOf(first), impl.EdOld)
		// Whoever knows a part of it knows all of it then.
		for _, other := range gone {
			beside, _ := impl.DeltaOf(base, other)
			both := hears(t, l, 0, batchOf(impl.Delta{Base: l.State.Know, Know: impl.KnowMax(l.State.Know, []int{0, 0, 30})}))
			partly, code := plainlyHeard(both, batchOf(beside))
			wantHeard(t, "known in part", both, batchOf(beside), partly, code)
			partly, code = plainlyHeard(l, batchOf(beside))
			wantHeard(t, "beside", l, batchOf(beside), partly, code)
			if want := impl.MergeState(c, other); code == 0 && !impl.SameState(partly.State, want) {
				t.Errorf("two batches beside each other: %+v", partly.State)
			}
		}
	}
	// An edit stands behind a batch as behind any other unit.
	l := hears(t, impl.LogNew(2), 0, batchOf(first))
	l, units := edits(t, l, ins("r", 3, 7), cut("r", 0), keyEdit(impl.AcDel, "s", "k", 0))
	if !slices.Equal(units[0].Act.Knew, base.Know) || units[0].Act.Time != impl.TimeOf(base)+1 {
		t.Errorf("behind a batch: %+v", units[0])
	}
	wantLogOk(t, "edits behind a batch", l, true)
}

// One log hears acts, the other one batches that have some of these in common.
func TestBatchesKnownInPart(t *testing.T) {
	_, units := edits(t, impl.LogNew(0), edited()...)
	states := []impl.State{impl.StateNew()}
	for _, u := range units {
		s, _ := plainlyDoneUnit(states[len(states)-1], u)
		states = append(states, s)
	}
	for from := range states {
		for to := from + 1; to < len(states); to++ {
			d, ok := impl.DeltaOf(states[from], states[to])
			if !ok {
				t.Fatal("no Delta")
			}
			for _, known := range []int{0, from - 1, from, (from + to) / 2, to - 1, to} {
				if known < 0 {
					continue
				}
				l := logOf(t, 1, units[:known]...)
				got, code := impl.Heard(l, batchOf(d))
				want := 0
				switch {
				case known >= to:
					want = impl.EdOld
				case known < from:
					want = impl.EdEarly
				}
				if code != want || code == 0 && !impl.SameState(got.State, states[to]) || !impl.LogOk(got) {
					t.Errorf("from %d to %d, %d known: told %d", from, to, known, code)
				}
				if code == 0 && to < len(units) {
					wantHeard(t, "behind a batch", got, units[to], grown(got, states[to+1], units[to]), 0)
				}
			}
		}
	}
}

func TestDoUnit(t *testing.T) {
	for _, a := range []impl.Act{counts(someState(), 0, "c", 3), keyed(someState(), 1, impl.AcPut, "m", "x", 4), cuts(someState(), 2, "r", dot(0, 4)), counts(impl.StateNew(), 0, "c", 1), {}} {
		for _, s := range []impl.State{someState(), impl.StateNew(), unrightState()} {
			want, code := impl.DoAct(s, a)
			// The other one is not looked at.
			for _, other := range []impl.Delta{{}, someDelta()} {
				wantDoneUnit(t, s, impl.Unit{Act: a, Delta: other}, want, code)
			}
		}
	}
	for _, d := range []impl.Delta{someDelta(), {}, {Base: []int{0, 0, 0}, Know: []int{0, 0, 1}}, {Base: []int{900, 0, 0}, Know: []int{901, 0, 0}}} {
		for _, s := range []impl.State{someTaker(), someState(), impl.StateNew(), unrightState()} {
			want, code := impl.DoDelta(s, d)
			for _, other := range []impl.Act{{}, counts(s, 0, "c", 1)} {
				wantDoneUnit(t, s, impl.Unit{Batch: true, Act: other, Delta: d}, want, code)
			}
		}
	}
}

func wantDoneUnit(t *testing.T, s impl.State, u impl.Unit, want impl.State, code int) {
	t.Helper()
	s, u, want = roomyState(s), roomyUnit(u), ownState(want)
	stateBefore, unitBefore := whole(s), wholeUnit(u)
	got, told := impl.DoUnit(s, u)
	if told != code || !impl.SameState(got, want) {
		t.Errorf("DoUnit told %d, not %d:\n%+v\nnot\n%+v\nof\n%+v\nand\n%+v", told, code, got, want, s, u)
	}
	wantApart(t, "DoUnit", []any{got}, s, u)
	writeOver(got)
	if !reflect.DeepEqual(whole(s), stateBefore) || !reflect.DeepEqual(wholeUnit(u), unitBefore) {
		t.Errorf("DoUnit wrote into its arguments: %+v, %+v", s, u)
	}
}

func TestSameUnit(t *testing.T) {
	var all []impl.Unit
	for _, row := range actsByKind() {
		all = append(all, unitOf(row.act))
	}
	act, batch := unitOf(keyed(someState(), 1, impl.AcPut, "m", "x", 4)), batchOf(someDelta())
	with := func(u impl.Unit, change func(u *impl.Unit)) { all = append(all, changedUnit(u, change)) }
	all = append(all, act, batch, impl.Unit{}, impl.Unit{Batch: true})
	for _, u := range []impl.Unit{act, batch} {
		with(u, func(u *impl.Unit) { u.Batch = !u.Batch })
		with(u, func(u *impl.Unit) { u.Act.Dot.Rep++ })
		with(u, func(u *impl.Unit) { u.Act.Dot.Seq++ })
		with(u, func(u *impl.Unit) { u.Act.Time++ })
		with(u, func(u *impl.Unit) { u.Act.Knew = append(u.Act.Knew, 0) })
		with(u, func(u *impl.Unit) { u.Act.Kind++ })
		with(u, func(u *impl.Unit) { u.Act.Obj += "a" })
		with(u, func(u *impl.Unit) { u.Act.Key += "a" })
		with(u, func(u *impl.Unit) { u.Act.Val++ })
		with(u, func(u *impl.Unit) { u.Act.Ref.Rep++ })
		with(u, func(u *impl.Unit) { u.Act.Ref.Seq++ })
		with(u, func(u *impl.Unit) { u.Delta.Base = append(u.Delta.Base, 0) })
		with(u, func(u *impl.Unit) { u.Delta.Know = append(u.Delta.Know, 0) })
		with(u, func(u *impl.Unit) { u.Delta.Tallies = append(u.Delta.Tallies, impl.Tally{}) })
		with(u, func(u *impl.Unit) { u.Delta.Lives = append(u.Delta.Lives, impl.Live{}) })
		with(u, func(u *impl.Unit) { u.Delta.Dead = append(u.Delta.Dead, impl.Dot{}) })
		with(u, func(u *impl.Unit) { u.Delta.Cells = append(u.Delta.Cells, impl.Cell{}) })
	}
	for rep := range impl.Reps {
		with(act, func(u *impl.Unit) { u.Act.Knew[rep]++ })
		with(batch, func(u *impl.Unit) { u.Delta.Base[rep]++ })
	}
	for i := range someDelta().Dead {
		with(batch, func(u *impl.Unit) { u.Delta.Dead[i].Rep++ })
		with(batch, func(u *impl.Unit) { u.Delta.Dead[i].Seq += 7 })
	}
	with(batch, func(u *impl.Unit) { u.Delta.Dead = u.Delta.Dead[1:] })
	with(batch, func(u *impl.Unit) { slices.Reverse(u.Delta.Dead) })
	with(batch, func(u *impl.Unit) { u.Delta.Base, u.Delta.Know = u.Delta.Know, u.Delta.Base })
	for _, s := range statesToCompare()[6:] {
		all = append(all, batchOf(deltaOfParts([]int{1, 1, 1}, s)))
	}
	for i, a := range all {
		for j, b := range all {
			if got := impl.SameUnit(a, b); got != (i == j) {
				t.Errorf("SameUnit is %v of\n%+v\nand\n%+v", got, a, b)
			}
		}
		own, before := roomyUnit(a), wholeUnit(roomyUnit(a))
		if !impl.SameUnit(a, own) || !impl.SameUnit(own, ownUnit(a)) || !reflect.DeepEqual(wholeUnit(own), before) {
			t.Errorf("%+v is not like itself, or was written into", a)
		}
	}
	empty := impl.Unit{Act: impl.Act{Knew: []int{}}, Delta: impl.Delta{Base: []int{}, Know: []int{}, Tallies: []impl.Tally{}, Lives: []impl.Live{}, Dead: []impl.Dot{}, Cells: []impl.Cell{}}}
	if !impl.SameUnit(empty, impl.Unit{}) || !impl.SameUnit(impl.Unit{}, empty) {
		t.Error("empty lists and nil are not the same")
	}
}

// wrongUnits are made of units that are right otherwise; map to what each is.
func wrongUnits() map[string]impl.Unit {
	act, batch := countsOf(0, 1)[0], batchOf(someDelta())
	out := map[string]impl.Unit{
		"nothing":                 {},
		"a batch of nothing":      {Batch: true},
		"an act as a batch":       changedUnit(act, func(u *impl.Unit) { u.Batch = true }),
		"a batch as an act":       changedUnit(batch, func(u *impl.Unit) { u.Batch = false }),
		"both as an act":          {Act: act.Act, Delta: batch.Delta},
		"both as a batch":         {Batch: true, Act: act.Act, Delta: batch.Delta},
		"an act, a Delta's Base":  {Act: act.Act, Delta: impl.Delta{Base: []int{0, 0, 0}}},
		"an act, a Delta's Know":  {Act: act.Act, Delta: impl.Delta{Know: []int{0, 0, 0}}},
		"an act, a Tally":         {Act: act.Act, Delta: impl.Delta{Tallies: []impl.Tally{{}}}},
		"an act, a Live":          {Act: act.Act, Delta: impl.Delta{Lives: []impl.Live{{}}}},
		"an act, a dead one":      {Act: act.Act, Delta: impl.Delta{Dead: []impl.Dot{{}}}},
		"an act, a Cell":          {Act: act.Act, Delta: impl.Delta{Cells: []impl.Cell{{}}}},
		"a batch, an act's Rep":   {Batch: true, Act: impl.Act{Dot: dot(1, 0)}, Delta: batch.Delta},
		"a batch, an act's Seq":   {Batch: true, Act: impl.Act{Dot: dot(0, 1)}, Delta: batch.Delta},
		"a batch, an act's Time":  {Batch: true, Act: impl.Act{Time: 1}, Delta: batch.Delta},
		"a batch, an act's Knew":  {Batch: true, Act: impl.Act{Knew: []int{0, 0, 0}}, Delta: batch.Delta},
		"a batch, an act's Kind":  {Batch: true, Act: impl.Act{Kind: 1}, Delta: batch.Delta},
		"a batch, an act's Obj":   {Batch: true, Act: impl.Act{Obj: "o"}, Delta: batch.Delta},
		"a batch, an act's Key":   {Batch: true, Act: impl.Act{Key: "k"}, Delta: batch.Delta},
		"a batch, an act's Val":   {Batch: true, Act: impl.Act{Val: 1}, Delta: batch.Delta},
		"a batch, an act's Ref":   {Batch: true, Act: impl.Act{Ref: dot(1, 0)}, Delta: batch.Delta},
		"a batch, an act's Ref's": {Batch: true, Act: impl.Act{Ref: dot(0, 1)}, Delta: batch.Delta},
	}
	for name, change := range wrongDeltas() {
		out["a batch, "+name] = batchOf(changedDelta(someDelta(), change))
	}
	for i, a := range wrongActs() {
		if i%211 == 0 {
			out["wrong act "+strconv.Itoa(i)] = unitOf(a)
		}
	}
	return out
}

func TestWrongUnits(t *testing.T) {
	some := pastOf(t, 0)
	for name, u := range wrongUnits() {
		if plainlyRightUnit(u) {
			t.Fatalf("%s is right", name)
		}
		for _, l := range []impl.Log{impl.LogNew(0), some} {
			wantNotHeard(t, name, l, u, impl.EdForm)
			wantLogOk(t, name+" waits", waiting(l, u), false)
			wantLogOk(t, name+" waits behind others", waiting(l, countsOf(2, 2)[1], u), false)
			wantLogOk(t, name+" is a unit", changedLog(l, func(l *impl.Log) { l.Units = append(l.Units, u) }), false)
			wantLogOk(t, name+" is the first unit", changedLog(l, func(l *impl.Log) { l.Units = append([]impl.Unit{u}, l.Units...) }), false)
		}
		wantNotHeard(t, name+", in a log that is not right", changedLog(some, func(l *impl.Log) { l.Time = -1 }), u, impl.EdForm)
	}
	// Empty lists are nothing, too.
	emptied := countsOf(0, 1)[0]
	emptied.Delta = impl.Delta{Base: []int{}, Know: []int{}, Tallies: []impl.Tally{}, Lives: []impl.Live{}, Dead: []impl.Dot{}, Cells: []impl.Cell{}}
	hears(t, impl.LogNew(1), 0, emptied, changedUnit(batchOf(impl.Delta{Base: []int{1, 0, 0}, Know: []int{2, 0, 0}}), func(u *impl.Unit) { u.Act.Knew = []int{} }))
}

// wrongLogs are made of a log that is right; each is wrong in one thing.
func wrongLogs(t *testing.T) map[string]impl.Log {
	t.Helper()
	some := pastOf(t, 1)
	batch, _ := impl.DeltaOf(impl.StateNew(), logOf(t, 0, countsOf(0, 3)...).State)
	some = waiting(hears(t, some, 0, batchOf(batch)), countsOf(2, 4)[1:]...)
	out := map[string]impl.Log{}
	for name, change := range map[string]func(l *impl.Log){
		"Rep -1":                      func(l *impl.Log) { l.Rep = -1 },
		"Rep Reps":                    func(l *impl.Log) { l.Rep = impl.Reps },
		"Rep far below":               func(l *impl.Log) { l.Rep = math.MinInt },
		"Rep far above":               func(l *impl.Log) { l.Rep = math.MaxInt },
		"Time -1":                     func(l *impl.Log) { l.Time = -1 },
		"Time 10001":                  func(l *impl.Log) { l.Time = 10001 },
		"Time far below":              func(l *impl.Log) { l.Time = math.MinInt },
		"Time far above":              func(l *impl.Log) { l.Time = math.MaxInt },
		"Time below its units'":       func(l *impl.Log) { l.Time = 14 },
		"Time 0":                      func(l *impl.Log) { l.Time = 0 },
		"no State":                    func(l *impl.Log) { l.State = impl.State{} },
		"a new State":                 func(l *impl.Log) { l.State = impl.StateNew() },
		"a State that knows more":     func(l *impl.Log) { l.State.Know[2]++ },
		"a State that knows less":     func(l *impl.Log) { l.State.Know[0]-- },
		"another Sum":                 func(l *impl.Log) { l.State.Tallies[0].Sum++ },
		"a Tally less":                func(l *impl.Log) { l.State.Tallies = l.State.Tallies[1:] },
		"a Live less":                 func(l *impl.Log) { l.State.Lives = l.State.Lives[:1] },
		"another Live":                func(l *impl.Log) { l.State.Lives[0].Key = "z" },
		"a Cell less":                 func(l *impl.Log) { l.State.Cells = l.State.Cells[:3] },
		"a Cell that came back":       func(l *impl.Log) { l.State.Cells[2].Gone = false },
		"a State not right":           func(l *impl.Log) { l.State = unrightState() },
		"no units":                    func(l *impl.Log) { l.Units = nil },
		"the first unit less":         func(l *impl.Log) { l.Units = l.Units[1:] },
		"the last unit less":          func(l *impl.Log) { l.Units = l.Units[:15] },
		"one unit less":               func(l *impl.Log) { l.Units = slices.Delete(l.Units, 7, 8) },
		"one unit more":               func(l *impl.Log) { l.Units = append(l.Units, countsOf(2, 1)[0]) },
		"two turned round":            func(l *impl.Log) { l.Units[3], l.Units[4] = l.Units[4], l.Units[3] },
		"a unit twice":                func(l *impl.Log) { l.Units = append(l.Units, l.Units[0]) },
		"a batch twice":               func(l *impl.Log) { l.Units = append(l.Units, l.Units[15]) },
		"an early unit":               func(l *impl.Log) { l.Units = append(l.Units, countsOf(2, 2)[1]) },
		"an early unit, then that":    func(l *impl.Log) { l.Units = append(l.Units, countsOf(2, 2)[1], countsOf(2, 1)[0]) },
		"a unit of no Cell":           func(l *impl.Log) { l.Units[12].Act.Ref = dot(1, 1) },
		"another unit":                func(l *impl.Log) { l.Units[0].Act.Val++ },
		"another unit, right as such": func(l *impl.Log) { l.Units[9].Act.Val = 11 },
		"a unit not right":            func(l *impl.Log) { l.Units[0].Act.Val = -1 },
		"a unit's other one":          func(l *impl.Log) { l.Units[0].Delta.Dead = []impl.Dot{dot(0, 1)} },
		"a batch's other one":         func(l *impl.Log) { l.Units[15].Act.Time = 1 },
		"a batch not right":           func(l *impl.Log) { l.Units[15].Delta.Know[0] = 1001 },
		"a batch of more":             func(l *impl.Log) { l.Units[15].Delta.Know[0] = 4 },
		"a later unit":                func(l *impl.Log) { l.Units[0].Act.Time = 16 },
		"a unit of a late Time":       func(l *impl.Log) { l.Units[0].Act.Time = 10000 },
		"a unit of no Time":           func(l *impl.Log) { l.Units[0].Act.Time = 0 },
		"a batch's Cell's Time":       func(l *impl.Log) { l.Units[15].Delta.Cells = []impl.Cell{cell(1, 10, 16, impl.Dot{})} },
		"a Wait not right":            func(l *impl.Log) { l.Waits[2].Act.Val = -1 },
		"a Wait's other one":          func(l *impl.Log) { l.Waits[0].Delta.Base = []int{0, 0, 0} },
		"a Wait that is nothing":      func(l *impl.Log) { l.Waits[1] = impl.Unit{} },
		"7 Waits":                     func(l *impl.Log) { l.Waits = countsOf(2, 8)[1:] },
	} {
		out[name] = changedLog(some, change)
	}
	full := logOf(t, 0, countsOf(0, 60)...)
	out["61 units"] = changedLog(full, func(l *impl.Log) {
		l.Units = countsOf(0, 61)
		l.Time, l.State.Know[0], l.State.Tallies[0].Sum = 61, 61, 61
	})
	out["a State above Time"] = changedLog(hears(t, impl.LogNew(0), 0, batchOf(impl.Delta{Base: []int{0, 0, 0}, Know: []int{1, 0, 0}, Cells: []impl.Cell{cell(0, 1, 9, impl.Dot{})}})),
		func(l *impl.Log) { l.Time = 8 })
	out["nothing"] = impl.Log{}
	return out
}

func TestWrongLogs(t *testing.T) {
	units := countsOf(2, 4)
	for name, l := range wrongLogs(t) {
		if plainlyRightLog(l) {
			t.Fatalf("%s is right", name)
		}
		wantLogOk(t, name, l, false)
		for _, e := range []impl.Edit{count("c", 1), cut("none", 4), {}} {
			wantNotEdited(t, name, l, e, impl.EdForm)
		}
		// One that could be done, one that is early, one that waits, one that is known, none at all.
		for _, u := range []impl.Unit{units[0], countsOf(0, 9)[8], units[2], countsOf(1, 1)[0], {}} {
			wantNotHeard(t, name, l, u, impl.EdForm)
		}
	}
}

// What the rule for a log does not bar.
func TestLogsThatAreRight(t *testing.T) {
	some := pastOf(t, 1)
	units := countsOf(2, 8)
	for name, l := range map[string]impl.Log{
		"nothing done":           impl.LogNew(2),
		"a later Time":           changedLog(impl.LogNew(2), func(l *impl.Log) { l.Time = 10000 }),
		"another replica":        changedLog(some, func(l *impl.Log) { l.Rep = 2 }),
		"6 Waits":                waiting(some, units[1:7]...),
		"Waits that can be done": waiting(some, units[:3]...),
		"Waits that are known":   waiting(some, some.Units[:6]...),
		"Waits that are alike":   waiting(some, units[3], units[3], units[3]),
		"a Wait of a late Time":  waiting(some, changedUnit(units[1], func(u *impl.Unit) { u.Act.Time = 10000 })),
		"a Wait that is a batch": waiting(some, batchOf(someDelta())),
		"60 units":               logOf(t, 0, countsOf(1, 60)...),
		"empty lists":            {State: impl.State{Know: []int{0, 0, 0}, Tallies: []impl.Tally{}, Lives: []impl.Live{}, Cells: []impl.Cell{}}, Units: []impl.Unit{}, Waits: []impl.Unit{}},
	} {
		if !plainlyRightLog(l) {
			t.Fatalf("%s is not right", name)
		}
		wantLogOk(t, name, l, true)
		for _, u := range []impl.Unit{countsOf(0, 1)[0], countsOf(0, 2)[1], units[0], units[1], units[7], batchOf(someDelta())} {
			want, code := plainlyHeard(l, u)
			wantHeard(t, name, l, u, want, code)
		}
		for _, e := range append(editsByKind(), ins("r", 0, 1), impl.Edit{}) {
			want, u, code := plainlyEdited(l, e)
			wantEdited(t, name, l, e, want, u, code)
		}
	}
}

func TestWrongEditsOfALog(t *testing.T) {
	l := pastOf(t, 0)
	for name, row := range map[string]struct {
		e    impl.Edit
		code int
	}{
		"nothing":              {impl.Edit{}, impl.EdForm},
		"no kind":              {impl.Edit{Kind: 8, Obj: "c"}, impl.EdForm},
		"no Obj":               {count("", 1), impl.EdForm},
		"a Val too great":      {count("c", 1000000), impl.EdForm},
		"a Place below 0":      {cut("r", -1), impl.EdForm},
		"a Place of a counter": {impl.Edit{Kind: impl.AcCount, Obj: "c", Place: 1}, impl.EdForm},
		"behind the last one":  {cut("r", 3), impl.EdNone},
		"past the end":         {ins("r", 4, 1), impl.EdNone},
		"no such row":          {cut("q", 0), impl.EdNone},
	} {
		wantNotEdited(t, name, l, row.e, row.code)
	}
	// The last dot of a replica is done, the next one is none.
	last := hears(t, impl.LogNew(1), 0, batchOf(impl.Delta{Base: []int{0, 0, 0}, Know: []int{5, 999, 0}}))
	last, units := edits(t, last, count("c", 1))
	if units[0].Act.Dot != dot(1, 1000) {
		t.Errorf("the last dot: %+v", units[0])
	}
	wantNotEdited(t, "no dot any more", last, count("c", 1), impl.EdForm)
	wantNotEdited(t, "no dot any more, no place", last, cut("r", 0), impl.EdForm)
	edits(t, changedLog(last, func(l *impl.Log) { l.Rep = 0 }), count("c", 1))
}

func TestTextsOfLogsAreNew(t *testing.T) {
	obj, key := strings.Repeat("ma", 3), strings.Repeat("ky", 3)
	first := unitOf(keyed(impl.StateNew(), 0, impl.AcPut, obj, key, 3))
	delta := impl.Delta{Base: []int{1, 0, 0}, Know: []int{2, 1, 0}, Tallies: []impl.Tally{{Obj: obj, Rep: 1}},
		Lives: []impl.Live{{Obj: obj, Key: key, Dot: dot(0, 2)}}, Dead: []impl.Dot{dot(0, 1)}, Cells: []impl.Cell{{Obj: obj, Dot: dot(1, 1), Time: 3}}}
	l := logOf(t, 1, first)
	later := unitOf(impl.Act{Dot: dot(1, 2), Time: 4, Knew: []int{2, 1, 0}, Kind: impl.AcIns, Obj: obj, Ref: dot(1, 1)})
	edit := keyEdit(impl.AcPut, obj, key, 4)
	wrong := changedLog(waiting(l, batchOf(delta), later), func(l *impl.Log) { l.Time = -1 })
	waits := hears(t, l, impl.EdEarly, later)
	all := hears(t, waits, 0, batchOf(delta))
	if len(all.Units) != 3 || len(waits.Waits) != 1 {
		t.Fatalf("%+v", all)
	}
	for i, got := range []impl.Log{l, wrong, waits, all} {
		many := 0
		heard, _ := impl.Heard(got, batchOf(delta))
		early, _ := impl.Heard(got, later)
		did, u, _ := impl.Edited(got, edit)
		for _, answer := range []any{heard, early, did, u} {
			for _, s := range stretchesOf(answer) {
				if !s.list {
					many++
				}
			}
			wantApart(t, "texts", []any{answer}, got, delta, later, edit, obj, key)
		}
		if many < 10 {
			t.Errorf("only %d texts in %d", many, i)
		}
	}
}

// Each hears what the others did in an order of its own, some of it twice, some of it late, some of it as a batch.
func TestDrawnLogs(t *testing.T) {
	codes, waited, batches := map[int]int{}, 0, 0
	for seed := range int64(18) {
		r := rand.New(rand.NewSource(seed))
		logs := []impl.Log{impl.LogNew(0), impl.LogNew(1), impl.LogNew(2)}
		var told []impl.Unit
		states := []impl.State{impl.StateNew()}
		own := 0
		for range 150 {
			at := r.Intn(3)
			l := logs[at]
			if own < 40 && r.Intn(3) == 0 {
				e := drawnEdit(r, l.State)
				want, u, code := plainlyEdited(l, e)
				wantEdited(t, "drawn", l, e, want, u, code)
				if logs[at] = want; code == 0 {
					own++
					told = append(told, u)
					states = append(states, want.State)
				}
				continue
			}
			if len(told) == 0 {
				continue
			}
			u := told[max(0, len(told)-1-r.Intn(12))]
			if next := slices.IndexFunc(told, func(u impl.Unit) bool { return !impl.Knows(l.State.Know, u.Act.Dot) }); next >= 0 && r.Intn(3) > 0 {
				u = told[min(len(told)-1, next+r.Intn(4))]
			}
			if r.Intn(12) == 0 {
				if d, ok := impl.DeltaOf(states[r.Intn(len(states))], states[r.Intn(len(states))]); ok {
					u = batchOf(d)
					batches++
				}
			}
			want, code := plainlyHeard(l, u)
			wantHeard(t, "drawn", l, u, want, code)
			codes[code]++
			waited += max(0, len(l.Waits)-len(want.Waits))
			logs[at] = want
		}
		// In the order in which they were done, each may come to all.
		for i := range logs {
			for _, u := range told {
				logs[i], _ = impl.Heard(logs[i], u)
			}
			if !impl.LogOk(logs[i]) || !impl.SameState(logs[i].State, logs[0].State) {
				t.Fatalf("all heard came to\n%+v\nnot\n%+v", logs[i].State, logs[0].State)
			}
		}
	}
	if codes[0] < 300 || codes[impl.EdOld] < 300 || codes[impl.EdEarly] < 200 || waited < 100 || batches < 50 {
		t.Errorf("drawn were codes %v, waited %d, batches %d", codes, waited, batches)
	}
}

// The same units in other orders, each again and again until it is done, come to the same state.
func TestUnitsInDrawnOrders(t *testing.T) {
	_, units := edits(t, impl.LogNew(0), edited()...)
	beside := hears(t, impl.LogNew(1), 0, units[:6]...)
	beside, others := edits(t, beside, edited()...)
	all := hears(t, beside, 0, units[6:]...)
	list := append(slices.Clone(units), others...)
	for seed := range int64(8) {
		r := rand.New(rand.NewSource(seed))
		l := impl.LogNew(2)
		for len(l.Units) < len(list) {
			r.Shuffle(len(list), func(i, j int) { list[i], list[j] = list[j], list[i] })
			for _, u := range list {
				want, code := plainlyHeard(l, u)
				wantHeard(t, "drawn order", l, u, want, code)
				l = want
			}
		}
		if !impl.SameState(l.State, all.State) || l.Time != all.Time || len(l.Waits) != 0 || len(l.Units) != 30 {
			t.Fatalf("another order came to\n%+v\nnot\n%+v", l, all)
		}
	}
}

// Logs with one thing drawn anew are right or not, as the words of the document say.
func TestDrawnChangesOfLogs(t *testing.T) {
	r := rand.New(rand.NewSource(5))
	rights := map[bool]int{}
	units := append(countsOf(0, 8), countsOf(1, 5)...)
	for range 1500 {
		var l impl.Log
		l.State = impl.StateNew()
		l.Rep = r.Intn(3)
		for range r.Intn(12) {
			u := units[r.Intn(len(units))]
			if s, code := plainlyDoneUnit(l.State, u); code == 0 {
				l = grown(l, s, ownUnit(u))
			} else if r.Intn(3) == 0 {
				l.Waits = append(l.Waits, ownUnit(u))
			}
		}
		switch r.Intn(8) {
		case 0:
			l.Time += r.Intn(3) - 1
		case 1:
			l.State.Know[r.Intn(3)] += r.Intn(2)
		case 2:
			if len(l.Units) > 0 {
				l.Units[r.Intn(len(l.Units))].Act.Time += r.Intn(2)
			}
		case 3:
			if len(l.Units) > 1 {
				l.Units = slices.Delete(l.Units, 0, r.Intn(2))
			}
		case 4:
			l.Waits = append(l.Waits, units[:r.Intn(8)]...)
		}
		right := plainlyRightLog(l)
		rights[right]++
		wantLogOk(t, "drawn", l, right)
		u := units[r.Intn(len(units))]
		want, code := plainlyHeard(l, u)
		wantHeard(t, "drawn", l, u, want, code)
	}
	if rights[true] < 500 || rights[false] < 100 {
		t.Errorf("drawn were %v", rights)
	}
}
