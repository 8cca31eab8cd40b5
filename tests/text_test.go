package tests

import (
	"math/rand"
	"reflect"
	"slices"
	"strconv"
	"strings"
	"testing"

	"loop.example/g00463/impl"
)

// handState has one part of each kind, Map and not, Gone and not; its text is worked out by hand, and so is that of handDelta.
func handState() impl.State {
	return impl.State{
		Know:    []int{1000, 2, 3},
		Tallies: []impl.Tally{{Obj: "c", Rep: 2, Sum: 999999}},
		Lives: []impl.Live{
			{Map: true, Obj: "m", Key: "x", Val: 128, Dot: dot(0, 1000)},
			{Map: false, Obj: "abcdefgh", Key: "k", Dot: dot(1, 2)},
		},
		Cells: []impl.Cell{
			{Obj: "r", Dot: dot(0, 127), Time: 10000, Ref: dot(1, 1), Val: 7, Gone: true},
			{Obj: "r", Dot: dot(1, 1), Time: 9},
		},
	}
}

const handStateText = "\xe8\x07" + "\x02" + "\x03" +
	"\x01" + "\x01c" + "\x02" + "\xbf\x84\x3d" +
	"\x02" + "\x01" + "\x01m" + "\x01x" + "\x80\x01" + "\x00" + "\xe8\x07" +
	"\x00" + "\x08abcdefgh" + "\x01k" + "\x00" + "\x01" + "\x02" +
	"\x02" + "\x01r" + "\x00" + "\x7f" + "\x90\x4e" + "\x01" + "\x01" + "\x07" + "\x01" +
	"\x01r" + "\x01" + "\x01" + "\x09" + "\x00" + "\x00" + "\x00" + "\x00" +
	"\xdc\x73\xd5\x5c"

func handDelta() impl.Delta {
	return impl.Delta{
		Base:    []int{127, 128, 0},
		Know:    []int{1000, 129, 3},
		Tallies: []impl.Tally{{Obj: "c", Rep: 2, Sum: 999999}},
		Lives: []impl.Live{
			{Map: true, Obj: "m", Key: "x", Val: 128, Dot: dot(0, 128)},
			{Map: false, Obj: "abcdefgh", Key: "k", Dot: dot(2, 3)},
		},
		Dead: []impl.Dot{dot(0, 127), dot(1, 128)},
		Cells: []impl.Cell{
			{Obj: "r", Dot: dot(0, 127), Time: 10000, Ref: dot(2, 1000), Val: 7, Gone: true},
			{Obj: "r", Dot: dot(1, 129), Time: 1},
		},
	}
}

const handDeltaText = "\x7f" + "\x80\x01" + "\x00" +
	"\xe8\x07" + "\x81\x01" + "\x03" +
	"\x01" + "\x01c" + "\x02" + "\xbf\x84\x3d" +
	"\x02" + "\x01" + "\x01m" + "\x01x" + "\x80\x01" + "\x00" + "\x80\x01" +
	"\x00" + "\x08abcdefgh" + "\x01k" + "\x00" + "\x02" + "\x03" +
	"\x02" + "\x00" + "\x7f" + "\x01" + "\x80\x01" +
	"\x02" + "\x01r" + "\x00" + "\x7f" + "\x90\x4e" + "\x02" + "\xe8\x07" + "\x07" + "\x01" +
	"\x01r" + "\x01" + "\x81\x01" + "\x01" + "\x00" + "\x00" + "\x00" + "\x00" +
	"\x9b\xcb\x21\x8d"

// The kinds of what stands in a text: a number, the number of parts of a list, a text, a byte that is 0 or 1.
const (
	numberField = iota
	sizeField
	textField
	flagField
)

type field struct {
	kind int
	text string
}

// fieldList writes what the document says without asking whether it is right; wrong where a number has no bytes at all.
type fieldList struct {
	all   []field
	wrong bool
}

func plainVar(n int) string {
	if n > 127 {
		return string([]byte{byte(n&127 | 128)}) + plainVar(n>>7)
	}
	return string([]byte{byte(n)})
}

func (f *fieldList) numbers(list ...int) {
	for _, n := range list {
		f.wrong = f.wrong || n < 0
		f.all = append(f.all, field{numberField, plainVar(max(n, 0))})
	}
}

func (f *fieldList) size(n int) {
	f.all = append(f.all, field{sizeField, plainVar(n)})
}

func (f *fieldList) texts(list ...string) {
	for _, s := range list {
		f.all = append(f.all, field{textField, plainVar(len(s)) + s})
	}
}

func (f *fieldList) flag(on bool) {
	f.all = append(f.all, field{flagField, map[bool]string{false: "\x00", true: "\x01"}[on]})
}

func (f *fieldList) tallies(list []impl.Tally) {
	f.size(len(list))
	for _, x := range list {
		f.texts(x.Obj)
		f.numbers(x.Rep, x.Sum)
	}
}

func (f *fieldList) lives(list []impl.Live) {
	f.size(len(list))
	for _, x := range list {
		f.flag(x.Map)
		f.texts(x.Obj, x.Key)
		f.numbers(x.Val, x.Dot.Rep, x.Dot.Seq)
	}
}

func (f *fieldList) cells(list []impl.Cell) {
	f.size(len(list))
	for _, x := range list {
		f.texts(x.Obj)
		f.numbers(x.Dot.Rep, x.Dot.Seq, x.Time, x.Ref.Rep, x.Ref.Seq, x.Val)
		f.flag(x.Gone)
	}
}

func (f *fieldList) text() string {
	var b strings.Builder
	for _, x := range f.all {
		b.WriteString(x.text)
	}
	return b.String()
}

func fieldsOfState(s impl.State) fieldList {
	var f fieldList
	f.numbers(s.Know...)
	f.tallies(s.Tallies)
	f.lives(s.Lives)
	f.cells(s.Cells)
	return f
}

func fieldsOfDelta(d impl.Delta) fieldList {
	var f fieldList
	f.numbers(d.Base...)
	f.numbers(d.Know...)
	f.tallies(d.Tallies)
	f.lives(d.Lives)
	f.size(len(d.Dead))
	for _, x := range d.Dead {
		f.numbers(x.Rep, x.Seq)
	}
	f.cells(d.Cells)
	return f
}

// plainTaker takes what stands in a text, in whatever form; whether it is the right form is asked by writing it again.
type plainTaker struct {
	rest string
	lost bool
}

func (p *plainTaker) byte() int {
	if p.rest == "" {
		p.lost = true
		return 0
	}
	b := int(p.rest[0])
	p.rest = p.rest[1:]
	return b
}

func (p *plainTaker) number() int {
	n, shift := 0, 0
	for {
		b := p.byte()
		n |= b & 127 << shift
		shift = min(shift+7, 42)
		if b < 128 {
			return n
		}
	}
}

func (p *plainTaker) word() string {
	n := p.number()
	if n > len(p.rest) {
		p.lost, p.rest = true, ""
		return ""
	}
	s := p.rest[:n]
	p.rest = p.rest[n:]
	return s
}

func (p *plainTaker) numbers(many int) []int {
	var out []int
	for range many {
		out = append(out, p.number())
	}
	return out
}

func (p *plainTaker) dot() impl.Dot {
	n := p.numbers(2)
	return dot(n[0], n[1])
}

func (p *plainTaker) each(take func()) {
	for many := p.number(); many > 0 && !p.lost; many-- {
		take()
	}
}

func (p *plainTaker) parts(s *impl.State, between func()) {
	p.each(func() {
		var x impl.Tally
		x.Obj = p.word()
		x.Rep = p.number()
		x.Sum = p.number()
		s.Tallies = append(s.Tallies, x)
	})
	p.each(func() {
		var x impl.Live
		x.Map = p.byte() == 1
		x.Obj = p.word()
		x.Key = p.word()
		x.Val = p.number()
		x.Dot = p.dot()
		s.Lives = append(s.Lives, x)
	})
	between()
	p.each(func() {
		var x impl.Cell
		x.Obj = p.word()
		x.Dot = p.dot()
		x.Time = p.number()
		x.Ref = p.dot()
		x.Val = p.number()
		x.Gone = p.byte() == 1
		s.Cells = append(s.Cells, x)
	})
}

func plainlyReadState(inner string) (impl.State, bool) {
	p := plainTaker{rest: inner}
	s := impl.State{Know: p.numbers(3)}
	p.parts(&s, func() {})
	f := fieldsOfState(s)
	if p.lost || f.text() != inner || !impl.StateOk(s) {
		return impl.State{}, false
	}
	return s, true
}

func plainlyReadDelta(inner string) (impl.Delta, bool) {
	p := plainTaker{rest: inner}
	d := impl.Delta{Base: p.numbers(3)}
	s := impl.State{Know: p.numbers(3)}
	p.parts(&s, func() {
		p.each(func() { d.Dead = append(d.Dead, p.dot()) })
	})
	d = deltaOfParts(d.Base, s, d.Dead...)
	f := fieldsOfDelta(d)
	if p.lost || f.text() != inner || !plainlyRightDelta(d) {
		return impl.Delta{}, false
	}
	return d, true
}

// wantStateText asks for the text that the document tells, and that the state comes back from it, all of it new memory.
func wantStateText(t *testing.T, name string, s impl.State) string {
	t.Helper()
	f := fieldsOfState(s)
	want := plainSeal(f.text())
	s = roomyState(s)
	before := whole(s)
	got, ok := impl.StateText(s)
	if !ok || got != want {
		t.Fatalf("%s: StateText is %v, %q, not %q, of %+v", name, ok, got, want, s)
	}
	if !reflect.DeepEqual(whole(s), before) {
		t.Fatalf("%s: StateText wrote into its argument: %+v", name, whole(s))
	}
	for range 2 {
		back, right := impl.ReadState(got)
		if !right || !impl.SameState(back, s) || !impl.StateOk(back) {
			t.Fatalf("%s: ReadState is %v\n%+v\nnot\n%+v", name, right, back, s)
		}
		if again, _ := impl.StateText(back); again != got {
			t.Fatalf("%s: what was read again has another text: %q, %q", name, again, got)
		}
		writeOver(back)
	}
	return got
}

func wantDeltaText(t *testing.T, name string, d impl.Delta) string {
	t.Helper()
	f := fieldsOfDelta(d)
	want := plainSeal(f.text())
	d = roomyDelta(d)
	before := wholeDelta(d)
	got, ok := impl.DeltaText(d)
	if !ok || got != want {
		t.Fatalf("%s: DeltaText is %v, %q, not %q, of %+v", name, ok, got, want, d)
	}
	if !reflect.DeepEqual(wholeDelta(d), before) {
		t.Fatalf("%s: DeltaText wrote into its argument: %+v", name, wholeDelta(d))
	}
	for range 2 {
		back, right := impl.ReadDelta(got)
		if !right || !sameDelta(back, d) || !impl.DeltaOk(back) {
			t.Fatalf("%s: ReadDelta is %v\n%+v\nnot\n%+v", name, right, back, d)
		}
		if again, _ := impl.DeltaText(back); again != got {
			t.Fatalf("%s: what was read again has another text: %q, %q", name, again, got)
		}
		for i := range back.Base[:cap(back.Base)] {
			back.Base[:cap(back.Base)][i] = 77
		}
		if !slices.Equal(back.Know, d.Know) {
			t.Fatalf("%s: Base and Know share memory", name)
		}
		writeOverDelta(back)
	}
	return got
}

func wantNoStateText(t *testing.T, name string, s impl.State) {
	t.Helper()
	s = roomyState(s)
	before := whole(s)
	if got, ok := impl.StateText(s); ok || got != "" {
		t.Errorf("%s: StateText is %v, %q, of %+v", name, ok, got, s)
	}
	if !reflect.DeepEqual(whole(s), before) {
		t.Errorf("%s: StateText wrote into its argument: %+v", name, whole(s))
	}
}

func wantNoDeltaText(t *testing.T, name string, d impl.Delta) {
	t.Helper()
	d = roomyDelta(d)
	before := wholeDelta(d)
	if got, ok := impl.DeltaText(d); ok || got != "" {
		t.Errorf("%s: DeltaText is %v, %q, of %+v", name, ok, got, d)
	}
	if !reflect.DeepEqual(wholeDelta(d), before) {
		t.Errorf("%s: DeltaText wrote into its argument: %+v", name, wholeDelta(d))
	}
}

func wantNoState(t *testing.T, name, text string) {
	t.Helper()
	if got, ok := impl.ReadState(text); ok || !impl.SameState(got, impl.State{}) {
		t.Errorf("%s: ReadState(%q) is %v, %+v", name, text, ok, got)
	}
}

func wantNoDeltaRead(t *testing.T, name, text string) {
	t.Helper()
	if got, ok := impl.ReadDelta(text); ok || !sameDelta(got, impl.Delta{}) {
		t.Errorf("%s: ReadDelta(%q) is %v, %+v", name, text, ok, got)
	}
}

func wantNeither(t *testing.T, name, text string) {
	t.Helper()
	wantNoState(t, name, text)
	wantNoDeltaRead(t, name, text)
}

func TestTextsByHand(t *testing.T) {
	if got := wantStateText(t, "by hand", handState()); got != handStateText {
		t.Errorf("StateText by hand is %q", got)
	}
	if got := wantDeltaText(t, "by hand", handDelta()); got != handDeltaText {
		t.Errorf("DeltaText by hand is %q", got)
	}
	if got := wantStateText(t, "new", impl.StateNew()); got != "\x00\x00\x00\x00\x00\x00\xd9\x88\x54\xa5" {
		t.Errorf("StateText of a new state is %q", got)
	}
	nothing := impl.Delta{Base: []int{0, 0, 0}, Know: []int{0, 0, 0}}
	if got := wantDeltaText(t, "nothing", nothing); got != strings.Repeat("\x00", 10)+"\xc2\x9d\x81\xac" {
		t.Errorf("DeltaText of nothing is %q", got)
	}
}

// withoutLists are the state with each choice of its lists.
func withoutLists(s impl.State) []impl.State {
	var out []impl.State
	for choice := range 8 {
		out = append(out, changedState(s, func(s *impl.State) {
			if choice&1 != 0 {
				s.Tallies = nil
			}
			if choice&2 != 0 {
				s.Lives = nil
			}
			if choice&4 != 0 {
				s.Cells = nil
			}
		}))
	}
	return out
}

func TestTextsOfStatesWithAndWithoutTheirLists(t *testing.T) {
	texts := map[string]int{}
	for _, s := range append(withoutLists(someState()), withoutLists(handState())...) {
		texts[wantStateText(t, "some lists", s)]++
	}
	for _, change := range changesOfState() {
		s := changedState(someState(), change)
		if impl.StateOk(s) {
			texts[wantStateText(t, "changed", s)]++
		} else {
			wantNoStateText(t, "changed", s)
		}
	}
	for _, s := range []impl.State{impl.StateNew(), {Know: []int{0, 0, 0}, Tallies: []impl.Tally{}, Lives: []impl.Live{}, Cells: []impl.Cell{}}} {
		texts[wantStateText(t, "new", s)]++
	}
	if len(texts) < 40 {
		t.Errorf("%d texts", len(texts))
	}
	// Two that are alike are the states of no lists and the changes that empty one.
	for text, many := range texts {
		if s, _ := impl.ReadState(text); many > 2 {
			t.Errorf("%d states have the text of %+v", many, s)
		}
	}
}

func TestTextsOfDeltasWithAndWithoutTheirLists(t *testing.T) {
	for _, d := range []impl.Delta{someDelta(), handDelta()} {
		for _, s := range withoutLists(partsOfDelta(d)) {
			for _, dead := range [][]impl.Dot{d.Dead, nil, d.Dead[:1]} {
				wantDeltaText(t, "some lists", deltaOfParts(d.Base, s, dead...))
			}
		}
	}
	for _, d := range []impl.Delta{
		{Base: []int{0, 0, 0}, Know: []int{0, 0, 0}, Tallies: []impl.Tally{}, Lives: []impl.Live{}, Dead: []impl.Dot{}, Cells: []impl.Cell{}},
		{Base: []int{1000, 1000, 1000}, Know: []int{1000, 1000, 1000}},
		{Base: []int{0, 0, 0}, Know: []int{1000, 1000, 1000}},
		{Base: []int{0, 127, 128}, Know: []int{127, 128, 1000}},
	} {
		wantDeltaText(t, "no lists", d)
	}
}

func TestTextsOfWhatActsMade(t *testing.T) {
	base, gone := parting(t)
	all := append(gone, base, impl.StateNew(), impl.MergeState(gone[0], gone[1]), impl.MergeState(gone[1], gone[2]))
	kinds := []impl.State{
		goesOn(t, impl.StateNew(), 0, count("c", 5)),
		goesOn(t, impl.StateNew(), 1, keyEdit(impl.AcAdd, "s", "k", 0)),
		goesOn(t, impl.StateNew(), 1, keyEdit(impl.AcAdd, "s", "k", 0), keyEdit(impl.AcDel, "s", "k", 0)),
		goesOn(t, impl.StateNew(), 2, keyEdit(impl.AcPut, "m", "x", 5)),
		goesOn(t, impl.StateNew(), 2, keyEdit(impl.AcPut, "m", "x", 5), keyEdit(impl.AcDrop, "m", "x", 0)),
		goesOn(t, impl.StateNew(), 0, ins("r", 0, 5)),
		goesOn(t, impl.StateNew(), 0, ins("r", 0, 5), cut("r", 0)),
	}
	between := 0
	for i, s := range append(all, kinds...) {
		wantStateText(t, "what acts made "+strconv.Itoa(i), s)
		for j, p := range append(all, kinds...) {
			if d, ok := impl.DeltaOf(p, s); ok {
				between++
				wantDeltaText(t, "what changed "+strconv.Itoa(i)+" from "+strconv.Itoa(j), d)
			}
		}
	}
	if between < 30 {
		t.Errorf("only %d Deltas", between)
	}
}

func TestTextsOfDrawnPasts(t *testing.T) {
	between := 0
	for seed := range int64(25) {
		r := rand.New(rand.NewSource(seed))
		acts := drawnActs(t, r, 40)
		some := []impl.State{impl.StateNew()}
		for range 5 {
			some = append(some, drawnKnown(r, acts))
		}
		for i := range 4 {
			some = append(some, impl.MergeState(some[i], some[i+1]))
		}
		for _, s := range some {
			wantStateText(t, "drawn", s)
			for _, p := range some {
				if d, ok := impl.DeltaOf(p, s); ok {
					between++
					wantDeltaText(t, "drawn", d)
				}
			}
		}
	}
	if between < 400 {
		t.Errorf("only %d Deltas", between)
	}
}

func TestTextsOfManyParts(t *testing.T) {
	most := impl.MostParts
	full := manyParts(most, most, most)
	wantStateText(t, "most of each", full)
	var dead []impl.Dot
	for i := range most {
		dead = append(dead, dot(i/50, i%50+1))
	}
	bare := impl.State{Know: full.Know}
	base := []int{50, 50, 50}
	late := changedState(full, func(s *impl.State) {
		for i := range s.Lives {
			s.Lives[i].Dot.Seq += 50
		}
	})
	wantDeltaText(t, "most of each", deltaOfParts(base, late, dead...))
	wantDeltaText(t, "most of the Dead", deltaOfParts(base, bare, dead...))
	for _, many := range []int{1, most - 1, most} {
		for _, s := range []impl.State{manyParts(many, 0, 0), manyParts(0, many, 0), manyParts(0, 0, many)} {
			wantStateText(t, "many of a kind", s)
			wantDeltaText(t, "many of a kind", deltaOfParts([]int{0, 0, 0}, s))
		}
	}
	over := most + 1
	for _, s := range []impl.State{manyParts(over, 0, 0), manyParts(0, over, 0), manyParts(0, 0, over), manyParts(over, most, most), manyParts(over, over, over)} {
		f := fieldsOfState(s)
		wantNoStateText(t, "one more", s)
		wantNoState(t, "one more", plainSeal(f.text()))
		d := deltaOfParts([]int{0, 0, 0}, s)
		f = fieldsOfDelta(d)
		wantNoDeltaText(t, "one more", d)
		wantNoDeltaRead(t, "one more", plainSeal(f.text()))
	}
	d := deltaOfParts(base, bare, append(dead, dot(2, 50))...)
	f := fieldsOfDelta(d)
	wantNoDeltaText(t, "one more Dead", d)
	wantNoDeltaRead(t, "one more Dead", plainSeal(f.text()))
}

func TestTextsOfNumbersAtTheirLimits(t *testing.T) {
	for _, n := range []int{0, 1, 126, 127, 128, 129, 255, 256, 16383, 16384, 16385, 999998, impl.MaxVal} {
		s := changedState(handState(), func(s *impl.State) { s.Tallies[0].Sum, s.Lives[0].Val, s.Cells[0].Val = n, n, n })
		wantStateText(t, "Sum and Val", s)
		wantDeltaText(t, "Sum and Val", deltaOfParts([]int{0, 0, 0}, s))
	}
	for _, time := range []int{10, 127, 128, 9999, lastTime} {
		s := changedState(handState(), func(s *impl.State) { s.Cells[0].Time = time })
		wantStateText(t, "Time", s)
		wantDeltaText(t, "Time", deltaOfParts([]int{0, 0, 0}, s))
	}
	wantStateText(t, "the first Time", cells(cell(0, 1, 1, impl.Dot{})))
	for rep := range impl.Reps {
		for _, seq := range []int{1, 126, 127, 128, 129, 255, 256, 999, impl.MaxSeq} {
			k, less := impl.KnowNew(), impl.KnowNew()
			k[rep], less[rep] = seq, seq-1
			s := impl.State{Know: k, Lives: []impl.Live{liveAt(true, 1, rep, seq)}, Cells: []impl.Cell{cell(rep, seq, 1, impl.Dot{})}}
			wantStateText(t, "Know and Seq", s)
			wantDeltaText(t, "Know and Seq", deltaOfParts(less, s))
			wantDeltaText(t, "Base and Seq", deltaOfParts(k, impl.State{Know: k}, dot(rep, seq)))
			s.Cells[0].Ref = dot(rep, 1001-seq)
			wantDeltaText(t, "Ref", deltaOfParts(less, s))
		}
	}
	for _, know := range rightKnowledges() {
		wantStateText(t, "Know", impl.State{Know: know})
		wantDeltaText(t, "Know", impl.Delta{Base: know, Know: know})
		wantDeltaText(t, "Know", impl.Delta{Base: []int{0, 0, 0}, Know: know})
	}
	for _, name := range []string{"a", "z", "abcdefg", "zzzzzzzz"} {
		s := changedState(handState(), func(s *impl.State) {
			s.Tallies[0].Obj, s.Lives[0].Obj, s.Lives[1].Key, s.Cells[0].Obj, s.Cells[1].Obj = name, name, name, name, name
		})
		wantStateText(t, "names", s)
		wantDeltaText(t, "names", deltaOfParts([]int{0, 0, 0}, s))
	}
}

// No rule bounds the Obj of a Tally; where there are no bytes for it, there is no text.
func TestTextsOfTalliesOfAnyObj(t *testing.T) {
	of := func(objs ...string) impl.State {
		s := impl.StateNew()
		for _, obj := range objs {
			s.Tallies = append(s.Tallies, impl.Tally{Obj: obj})
		}
		return s
	}
	sized := func(size int) string { return strings.Repeat("o", size) }
	for _, s := range []impl.State{of(""), of("\x00\xff", "A b"), of(sized(127)), of(sized(128)), of(bytesOf(16384)), of("", sized(9000), sized(9001))} {
		wantStateText(t, "any Obj", s)
		wantDeltaText(t, "any Obj", deltaOfParts([]int{0, 0, 0}, s))
	}
	// A state of one Tally has 11 bytes more than its Obj, a Delta 15.
	wantStateText(t, "the longest", of(sized(impl.MaxText-11)))
	wantDeltaText(t, "the longest", deltaOfParts([]int{0, 0, 0}, of(sized(impl.MaxText-15))))
	for _, s := range []impl.State{
		of(sized(impl.MaxText - 10)), of(sized(impl.MaxText - 1)), of(sized(impl.MaxText)), of(sized(impl.MaxText + 1)), of(sized(3 * impl.MaxText)),
		of(sized(10000), sized(10001)), of("a", sized(impl.MaxText+1), "p"),
	} {
		f := fieldsOfState(s)
		wantState(t, "too long", s, true)
		wantNoStateText(t, "too long", s)
		wantNoState(t, "too long", plainSeal(f.text()))
	}
	for _, s := range []impl.State{of(sized(impl.MaxText - 14)), of(sized(impl.MaxText + 1)), of(sized(10000), sized(10001)), of("a", sized(impl.MaxText+1), "p")} {
		d := deltaOfParts([]int{0, 0, 0}, s)
		f := fieldsOfDelta(d)
		wantDeltaOk(t, "too long", d, true)
		wantNoDeltaText(t, "too long", d)
		wantNoDeltaRead(t, "too long", plainSeal(f.text()))
	}
}

// wrongStatesByHand change one thing each of someState, which is then not right.
func wrongStatesByHand() map[string]func(s *impl.State) {
	all := map[string]func(s *impl.State){
		"two Tallies swapped":  func(s *impl.State) { s.Tallies[0], s.Tallies[1] = s.Tallies[1], s.Tallies[0] },
		"two Lives swapped":    func(s *impl.State) { s.Lives[3], s.Lives[4] = s.Lives[4], s.Lives[3] },
		"two Cells swapped":    func(s *impl.State) { s.Cells[0], s.Cells[1] = s.Cells[1], s.Cells[0] },
		"two Tallies alike":    func(s *impl.State) { s.Tallies = slices.Insert(s.Tallies, 1, s.Tallies[1]) },
		"two Lives alike":      func(s *impl.State) { s.Lives = append(s.Lives, s.Lives[4]) },
		"two Cells alike":      func(s *impl.State) { s.Cells = slices.Insert(s.Cells, 0, s.Cells[0]) },
		"a Live not known":     func(s *impl.State) { s.Lives[4].Dot.Seq = 5 },
		"a Live of no Seq":     func(s *impl.State) { s.Lives[0].Dot.Seq = 0 },
		"a Live of no replica": func(s *impl.State) { s.Lives[4].Dot.Rep = impl.Reps },
		"a Cell not known":     func(s *impl.State) { s.Cells[4].Dot.Seq = 5 },
		"a Ref that is none":   func(s *impl.State) { s.Cells[3].Ref = dot(0, 5) },
		"a Ref of another Obj": func(s *impl.State) { s.Cells[3].Ref = dot(0, 6) },
		"a Ref as late":        func(s *impl.State) { s.Cells[2].Time = 8 },
		"a Ref of Seq 0":       func(s *impl.State) { s.Cells[3].Ref = dot(1, 0) },
		"Time 0":               func(s *impl.State) { s.Cells[1].Time = 0 },
		"Time 10001":           func(s *impl.State) { s.Cells[4].Time = lastTime + 1 },
		"Sum above MaxVal":     func(s *impl.State) { s.Tallies[2].Sum = impl.MaxVal + 1 },
		"Val of a set":         func(s *impl.State) { s.Lives[1].Val = 1 },
		"Val of a map":         func(s *impl.State) { s.Lives[0].Val = impl.MaxVal + 1 },
		"Val of a row":         func(s *impl.State) { s.Cells[0].Val = impl.MaxVal + 1 },
		"Rep Reps":             func(s *impl.State) { s.Tallies[2].Rep = impl.Reps },
		"Know 1001":            func(s *impl.State) { s.Know[1] = 1001 },
		"Know of two":          func(s *impl.State) { s.Know = s.Know[:2] },
		"Know of four":         func(s *impl.State) { s.Know = append(s.Know, 0) },
		"Know of none":         func(s *impl.State) { s.Know = nil },
	}
	for _, name := range wrongNames() {
		all["Obj of a Live "+name] = func(s *impl.State) { s.Lives[1].Obj = name }
		all["Key of a Live "+name] = func(s *impl.State) { s.Lives[1].Key = name }
		all["Obj of a Cell "+name] = func(s *impl.State) { s.Cells[4].Obj = name }
	}
	return all
}

func TestWhatIsNotRightHasNoText(t *testing.T) {
	wrongs := allWrongStates()
	for name, change := range wrongStatesByHand() {
		wrongs["by hand: "+name] = changedState(someState(), change)
	}
	sealed := 0
	for name, s := range wrongs {
		wantState(t, name, s, false)
		wantNoStateText(t, name, s)
		if f := fieldsOfState(s); !f.wrong {
			sealed++
			wantNeither(t, name, plainSeal(f.text()))
		}
	}
	for name, change := range wrongDeltas() {
		d := changedDelta(someDelta(), change)
		wantNoDeltaText(t, name, d)
		if f := fieldsOfDelta(d); !f.wrong {
			sealed++
			wantNeither(t, name, plainSeal(f.text()))
		}
	}
	for name, know := range map[string][]int{"two": {9, 5}, "four": {9, 5, 4, 0}, "none": nil, "1001": {1001, 5, 4}} {
		for _, d := range []impl.Delta{changedDelta(someDelta(), func(d *impl.Delta) { d.Know = know }), changedDelta(someDelta(), func(d *impl.Delta) { d.Base = know })} {
			f := fieldsOfDelta(d)
			wantNoDeltaText(t, name, d)
			wantNeither(t, name, plainSeal(f.text()))
		}
	}
	if sealed < 80 {
		t.Errorf("only %d were sealed", sealed)
	}
}

// textsToBreak are of states and of Deltas, short ones and long ones.
func textsToBreak(t *testing.T) (states, deltas []string) {
	t.Helper()
	base, gone := parting(t)
	d, ok := impl.DeltaOf(base, gone[0])
	if !ok {
		t.Fatal("no Delta")
	}
	for _, s := range []impl.State{impl.StateNew(), handState(), someState(), gone[2]} {
		states = append(states, wantStateText(t, "to break", s))
	}
	for _, d := range []impl.Delta{{Base: []int{0, 0, 0}, Know: []int{0, 0, 0}}, handDelta(), someDelta(), d} {
		deltas = append(deltas, wantDeltaText(t, "to break", d))
	}
	return states, deltas
}

// wantNoneOfIts asks for the kind alone that the text was of: changed and sealed anew it may be one of the other kind.
func wantNoneOfIts(t *testing.T, name string, isState bool, text string) {
	t.Helper()
	if isState {
		wantNoState(t, name, text)
	} else {
		wantNoDeltaRead(t, name, text)
	}
}

func TestTextsThatAreCutOrTurned(t *testing.T) {
	states, deltas := textsToBreak(t)
	for i, text := range append(states, deltas...) {
		inner := text[:len(text)-4]
		for end := range len(text) {
			wantNeither(t, "cut", text[:end])
			wantNeither(t, "the beginning cut", text[end+1:])
			for by := 1; by < 256; by++ {
				wantNeither(t, "turned", turned(text, end, byte(by)))
			}
		}
		for end := range len(inner) {
			wantNoneOfIts(t, "cut and sealed", i < len(states), plainSeal(inner[:end]))
		}
	}
	for _, text := range []string{"", "\x00", "\xff\xff\xff\xff", plainSeal(""), plainSeal("\x00"), plainSeal(plainSeal("")), plainSeal(strings.Repeat("\xff", 100)), bytesOf(100), bytesOf(impl.MaxText + 4), strings.Repeat("\x00", 1000000), plainSeal(strings.Repeat("\x00", 1000))} {
		wantNeither(t, "no text of it", text)
	}
}

func TestBytesBehindTheEnd(t *testing.T) {
	states, deltas := textsToBreak(t)
	for i, text := range append(states, deltas...) {
		isState := i < len(states)
		inner := text[:len(text)-4]
		for b := range 256 {
			more := string([]byte{byte(b)})
			wantNoneOfIts(t, "ahead of the seal", isState, plainSeal(inner+more))
			wantNeither(t, "behind the seal", text+more)
			wantNeither(t, "between the text and its seal", inner+more+text[len(inner):])
		}
		for _, more := range []string{"\x00\x00", "\x00\x00\x00\x00", text, inner, bytesOf(1000), bytesOf(impl.MaxText - len(inner)), bytesOf(impl.MaxText)} {
			wantNoneOfIts(t, "ahead of the seal", isState, plainSeal(inner+more))
			wantNeither(t, "behind the seal", text+more)
			wantNeither(t, "ahead of it", more+text)
		}
		wantNeither(t, "no seal", inner)
		wantNeither(t, "two seals", plainSeal(text))
	}
	for _, text := range states {
		wantNoDeltaRead(t, "of the other kind", text)
	}
	for _, text := range deltas {
		wantNoState(t, "of the other kind", text)
	}
}

func TestTheFewestBytesOfBothKinds(t *testing.T) {
	for many := range 20 {
		text := plainSeal(strings.Repeat("\x00", many))
		if _, ok := impl.ReadState(text); ok != (many == 6) {
			t.Errorf("ReadState of %d noughts is %v", many, ok)
		}
		if _, ok := impl.ReadDelta(text); ok != (many == 10) {
			t.Errorf("ReadDelta of %d noughts is %v", many, ok)
		}
	}
}

// otherForms are what may not stand in place of a field: longer forms, more parts than there are or can be, no flag.
func otherForms(f field) []string {
	end := strings.IndexFunc(f.text, func(r rune) bool { return r < 128 })
	out := []string{
		f.text[:end] + string([]byte{f.text[end] + 128, 0}) + f.text[end+1:],
		f.text[:end] + string([]byte{f.text[end] + 128, 128, 0}) + f.text[end+1:],
		"\x80", "\x80\x00", "\x81\x00", "\x81\x80\x00", "\xff\xff\xff\xff\x7f", "\x80\x80\x80\x80\x80\x01", strings.Repeat("\xff", 20), "",
		plainVar(impl.MaxNumber), plainVar(impl.MaxNumber + 1),
	}
	if f.kind == sizeField {
		for _, n := range []int{impl.MostParts - 1, impl.MostParts, impl.MostParts + 1, 127, 128, 1000, impl.MaxText, impl.MaxText + 1, 1000000, impl.MaxNumber - 1, 1 << 40} {
			out = append(out, plainVar(n))
		}
		for n := range 20 {
			if text := plainVar(n); text != f.text {
				out = append(out, text)
			}
		}
	}
	if f.kind == flagField {
		for b := 2; b < 256; b++ {
			out = append(out, string([]byte{byte(b)}))
		}
		out = append(out, "\x80\x01", "\x01\x01", "\x00\x00", "true", "1")
	}
	return out
}

func TestTextsWithAFieldOfAnotherForm(t *testing.T) {
	base, gone := parting(t)
	d, _ := impl.DeltaOf(base, gone[1])
	states, deltas := 0, 0
	for _, s := range []impl.State{impl.StateNew(), handState(), someState(), gone[2]} {
		f := fieldsOfState(s)
		states += len(f.all)
		for i, x := range f.all {
			for _, other := range otherForms(x) {
				changed := fieldList{all: slices.Replace(slices.Clone(f.all), i, i+1, field{x.kind, other})}
				wantNoState(t, "field "+strconv.Itoa(i), plainSeal(changed.text()))
			}
		}
	}
	for _, d := range []impl.Delta{{Base: []int{0, 0, 0}, Know: []int{0, 0, 0}}, handDelta(), someDelta(), d} {
		f := fieldsOfDelta(d)
		deltas += len(f.all)
		for i, x := range f.all {
			for _, other := range otherForms(x) {
				changed := fieldList{all: slices.Replace(slices.Clone(f.all), i, i+1, field{x.kind, other})}
				wantNoDeltaRead(t, "field "+strconv.Itoa(i), plainSeal(changed.text()))
			}
		}
	}
	if states < 200 || deltas < 200 {
		t.Errorf("fields were %d and %d", states, deltas)
	}
}

// A text that tells of many parts and holds them is no better than one that does not.
func TestTextsOfMorePartsThanThereCanBe(t *testing.T) {
	zeros := strings.Repeat("\x00", 1000)
	for _, many := range []int{121, 122, 200, 1000, 19000, 1000000, impl.MaxNumber, 1 << 40} {
		for ahead := range 4 {
			inner := zeros[:3+ahead] + plainVar(many)
			wantNeither(t, "none of them there", plainSeal(inner))
			wantNeither(t, "some of them there", plainSeal(inner+zeros))
			inner = zeros[:6+ahead] + plainVar(many)
			wantNeither(t, "none of them there", plainSeal(inner))
			wantNeither(t, "some of them there", plainSeal(inner+zeros))
		}
	}
}

// Drawn changes of a text, sealed anew, are held against a reader that writes again what it took.
func TestDrawnChangesOfTexts(t *testing.T) {
	states, deltas := textsToBreak(t)
	texts := append(states, deltas...)
	r := rand.New(rand.NewSource(12))
	right := [2]int{}
	for range 60000 {
		text := texts[r.Intn(len(texts))]
		inner := []byte(text[:len(text)-4])
		for range 1 + r.Intn(3) {
			at := r.Intn(len(inner))
			switch r.Intn(4) {
			case 0:
				inner[at] = byte(r.Intn(256))
			case 1:
				inner[at] = byte(r.Intn(12))
			case 2:
				inner = slices.Insert(inner, at, byte(r.Intn(4)))
			case 3:
				if len(inner) > 1 {
					inner = slices.Delete(inner, at, at+1)
				}
			}
		}
		changed := string(inner)
		s, ok := plainlyReadState(changed)
		got, told := impl.ReadState(plainSeal(changed))
		if told != ok || !impl.SameState(got, s) {
			t.Fatalf("ReadState of %q sealed is %v, %+v, not %v, %+v", changed, told, got, ok, s)
		}
		d, good := plainlyReadDelta(changed)
		back, well := impl.ReadDelta(plainSeal(changed))
		if well != good || !sameDelta(back, d) {
			t.Fatalf("ReadDelta of %q sealed is %v, %+v, not %v, %+v", changed, well, back, good, d)
		}
		if ok {
			right[0]++
			wantStateText(t, "drawn", s)
		}
		if good {
			right[1]++
			wantDeltaText(t, "drawn", d)
		}
	}
	if right[0] < 1000 || right[1] < 1000 {
		t.Errorf("right were %v", right)
	}
}

func TestTextsOfDrawnStatesAndDeltas(t *testing.T) {
	r := rand.New(rand.NewSource(13))
	right := [2]int{}
	for range 1500 {
		s := drawnState(r)
		if impl.StateOk(s) {
			right[0]++
			wantStateText(t, "drawn", s)
		} else {
			wantNoStateText(t, "drawn", s)
		}
		d := drawnDelta(r)
		if plainlyRightDelta(d) {
			right[1]++
			wantDeltaText(t, "drawn", d)
		} else {
			wantNoDeltaText(t, "drawn", d)
		}
	}
	if right[0] < 300 || right[1] < 300 {
		t.Errorf("right were %v", right)
	}
}

func TestWhatIsReadIsNewMemory(t *testing.T) {
	obj, key := strings.Repeat("ma", 3), strings.Repeat("ky", 3)
	s := impl.State{Know: []int{1, 1, 1}, Tallies: []impl.Tally{{Obj: obj}},
		Lives: []impl.Live{{Map: true, Obj: obj, Key: key, Dot: dot(0, 1)}}, Cells: []impl.Cell{{Obj: obj, Dot: dot(1, 1), Time: 1}}}
	text := strings.Clone(wantStateText(t, "new memory", s))
	other := strings.Clone(wantDeltaText(t, "new memory", deltaOfParts([]int{0, 0, 0}, s)))
	back, _ := impl.ReadState(text)
	d, _ := impl.ReadDelta(other)
	all := append(textsOf(back), textsOf(partsOfDelta(d))...)
	if len(all) != 8 {
		t.Fatalf("%d texts", len(all))
	}
	for _, x := range all {
		if len(x) != 6 || sharesMemory(x, text) || sharesMemory(x, other) {
			t.Errorf("%q stands in the text that it was read of", x)
		}
	}
	first, _ := impl.StateText(s)
	second, _ := impl.StateText(s)
	if sharesMemory(first, second) {
		t.Error("two texts are one")
	}
}
