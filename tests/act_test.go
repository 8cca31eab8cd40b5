package tests

import (
	"math"
	"reflect"
	"strings"
	"testing"

	"loop.example/g00463/impl"
)

const (
	firstKind = 1
	lastKind  = 7
	lastTime  = 10000
)

// actsByKind has one act of each kind, with the bytes that the document asks for, written out by hand.
func actsByKind() []struct {
	act  impl.Act
	text string
} {
	return []struct {
		act  impl.Act
		text string
	}{
		{
			impl.Act{Dot: impl.Dot{Rep: 0, Seq: 1}, Time: 1, Knew: []int{0, 0, 0}, Kind: impl.AcCount, Obj: "c", Val: 300},
			"\x00\x01\x01\x00\x00\x00\x01\x01c\x00\xac\x02\x00\x00",
		},
		{
			impl.Act{Dot: impl.Dot{Rep: 1, Seq: 2}, Time: 3, Knew: []int{4, 1, 5}, Kind: impl.AcAdd, Obj: "set", Key: "k"},
			"\x01\x02\x03\x04\x01\x05\x02\x03set\x01k\x00\x00\x00",
		},
		{
			impl.Act{Dot: impl.Dot{Rep: 2, Seq: 130}, Time: 128, Knew: []int{127, 128, 129}, Kind: impl.AcDel, Obj: "abcdefgh", Key: "stuvwxyz"},
			"\x02\x82\x01\x80\x01\x7f\x80\x01\x81\x01\x03\x08abcdefgh\x08stuvwxyz\x00\x00\x00",
		},
		{
			impl.Act{Dot: impl.Dot{Rep: 1, Seq: 1}, Time: 2, Knew: []int{1, 0, 0}, Kind: impl.AcPut, Obj: "m", Key: "x", Val: 999999},
			"\x01\x01\x02\x01\x00\x00\x04\x01m\x01x\xbf\x84\x3d\x00\x00",
		},
		{
			impl.Act{Dot: impl.Dot{Rep: 0, Seq: 1000}, Time: 10000, Knew: []int{999, 1000, 1000}, Kind: impl.AcDrop, Obj: "m", Key: "x"},
			"\x00\xe8\x07\x90\x4e\xe7\x07\xe8\x07\xe8\x07\x05\x01m\x01x\x00\x00\x00",
		},
		{
			impl.Act{Dot: impl.Dot{Rep: 0, Seq: 6}, Time: 9, Knew: []int{5, 7, 0}, Kind: impl.AcIns, Obj: "row", Val: 7, Ref: impl.Dot{Rep: 1, Seq: 7}},
			"\x00\x06\x09\x05\x07\x00\x06\x03row\x00\x07\x01\x07",
		},
		{
			impl.Act{Dot: impl.Dot{Rep: 2, Seq: 3}, Time: 9, Knew: []int{5, 7, 2}, Kind: impl.AcCut, Obj: "row", Ref: impl.Dot{Rep: 2, Seq: 2}},
			"\x02\x03\x09\x05\x07\x02\x07\x03row\x00\x00\x02\x02",
		},
	}
}

// ownAct takes the list of the act anew, so that a change of one act is none of another one.
func ownAct(a impl.Act) impl.Act {
	a.Knew = append([]int{}, a.Knew...)
	return a
}

func changedAct(a impl.Act, change func(a *impl.Act)) impl.Act {
	a = ownAct(a)
	change(&a)
	return a
}

// actsAbout are acts of every kind that there is and some that are not, with all that each field may have about its limits, right and wrong.
func actsAbout() []impl.Act {
	var out []impl.Act
	keys := []string{"", "k", "abcdefgh", "abcdefghi", "K"}
	vals := []int{0, 1, impl.MaxVal, -1, impl.MaxVal + 1, math.MaxInt, math.MinInt}
	refs := []impl.Dot{{}, {Rep: 0, Seq: 1}, {Rep: 1, Seq: 3}, {Rep: 1, Seq: 4}, {Rep: 2, Seq: 1}, {Rep: 1, Seq: 0}, {Rep: 2, Seq: 0}, {Rep: 3, Seq: 0}, {Rep: 3, Seq: 1}, {Rep: -1, Seq: 0}, {Rep: -1, Seq: 1}, {Rep: 0, Seq: -1}, {Rep: 0, Seq: 5}, {Rep: 0, Seq: 6}, {Rep: math.MaxInt, Seq: math.MinInt}}
	for kind := firstKind - 2; kind <= lastKind+2; kind++ {
		for _, key := range keys {
			for _, val := range vals {
				for _, ref := range refs {
					out = append(out, impl.Act{Dot: impl.Dot{Rep: 0, Seq: 6}, Time: 5, Knew: []int{5, 3, 0}, Kind: kind, Obj: "o", Key: key, Val: val, Ref: ref})
				}
			}
		}
	}
	return out
}

func rightActs() []impl.Act {
	var out []impl.Act
	for _, row := range actsByKind() {
		out = append(out, row.act)
		for _, time := range []int{1, 2, 127, 128, lastTime - 1, lastTime} {
			out = append(out, changedAct(row.act, func(a *impl.Act) { a.Time = time }))
		}
		for _, name := range []string{"a", "z", "az", "abcdefg", "zzzzzzzz"} {
			out = append(out, changedAct(row.act, func(a *impl.Act) { a.Obj = name }))
		}
		for rep := range impl.Reps {
			for _, seq := range []int{1, 2, 3, 127, 128, 129, impl.MaxSeq - 1, impl.MaxSeq} {
				a := changedAct(row.act, func(a *impl.Act) {
					a.Dot, a.Knew = impl.Dot{Rep: rep, Seq: seq}, []int{500, 1000, 1}
					a.Knew[rep] = seq - 1
				})
				if a.Ref.Seq > a.Knew[a.Ref.Rep] {
					a.Ref.Seq = a.Knew[a.Ref.Rep]
				}
				if a.Ref.Seq > 0 || a.Ref.Rep == 0 && a.Kind != impl.AcCut {
					out = append(out, a)
				}
			}
		}
	}
	for _, a := range actsAbout() {
		if plainlyRight(a) {
			out = append(out, a)
		}
	}
	return out
}

// plainlyRight asks of the fields that a kind has or has not, of an act that is right in all others.
func plainlyRight(a impl.Act) bool {
	known := a.Ref.Rep >= 0 && a.Ref.Rep <= 2 && a.Ref.Seq >= 1 && a.Ref.Seq <= a.Knew[a.Ref.Rep]
	free := a.Ref.Rep == 0 && a.Ref.Seq == 0
	name := a.Key == "k" || a.Key == "abcdefgh"
	within := a.Val >= 0 && a.Val <= 999999
	switch a.Kind {
	case 1:
		return a.Key == "" && within && free
	case 2, 3, 5:
		return name && a.Val == 0 && free
	case 4:
		return name && within && free
	case 6:
		return a.Key == "" && within && (free || known)
	case 7:
		return a.Key == "" && a.Val == 0 && known
	}
	return false
}

// wrongActs has every act of actsByKind with one thing of it made wrong.
func wrongActs() []impl.Act {
	var out []impl.Act
	for _, row := range actsByKind() {
		change := func(how func(a *impl.Act)) { out = append(out, changedAct(row.act, how)) }
		for _, time := range []int{0, -1, lastTime + 1, math.MaxInt, math.MinInt} {
			change(func(a *impl.Act) { a.Time = time })
		}
		for _, kind := range []int{0, -1, lastKind + 1, 257, 1 << 32, math.MaxInt, math.MinInt} {
			change(func(a *impl.Act) { a.Kind = kind })
		}
		for _, name := range wrongNames() {
			change(func(a *impl.Act) { a.Obj = name })
			if name != "" || row.act.Key != "" {
				change(func(a *impl.Act) { a.Key = name })
			}
		}
		for _, d := range wrongDots() {
			change(func(a *impl.Act) { a.Dot = d })
			if d != (impl.Dot{}) {
				change(func(a *impl.Act) { a.Ref = d })
			}
		}
		for _, k := range wrongKnowledges() {
			change(func(a *impl.Act) { a.Knew = k })
		}
		change(func(a *impl.Act) { a.Knew[a.Dot.Rep]++ })
		change(func(a *impl.Act) { a.Knew[a.Dot.Rep]-- })
		change(func(a *impl.Act) { a.Knew = append(a.Knew, 0) })
		change(func(a *impl.Act) { a.Knew = a.Knew[:2] })
		change(func(a *impl.Act) { a.Dot.Seq++ })
		change(func(a *impl.Act) { a.Dot.Seq-- })
		change(func(a *impl.Act) { a.Dot.Rep = (a.Dot.Rep + 1) % impl.Reps; a.Knew[a.Dot.Rep] = a.Dot.Seq })
		for _, val := range []int{-1, impl.MaxVal + 1, math.MaxInt, math.MinInt} {
			change(func(a *impl.Act) { a.Val = val })
		}
	}
	for _, a := range actsAbout() {
		if !plainlyRight(a) {
			out = append(out, a)
		}
	}
	return append(out, impl.Act{})
}

func wrongNames() []string {
	out := []string{"", "abcdefghi", strings.Repeat("a", 9), strings.Repeat("z", 200), strings.Repeat("a", impl.MaxText+1), "A", "Z", "0", " ", "a b", "ab ", " ab", "é", "ab\x00", "\xff"}
	for _, b := range []string{"`", "{"} {
		out = append(out, b, "a"+b, b+"a", "abcdefg"+b, "abc"+b+"efg")
	}
	return out
}

func TestNumbersOfActs(t *testing.T) {
	for i, kind := range []int{impl.AcCount, impl.AcAdd, impl.AcDel, impl.AcPut, impl.AcDrop, impl.AcIns, impl.AcCut} {
		if kind != i+1 {
			t.Errorf("kind %d is %d", i+1, kind)
		}
	}
	if impl.MaxVal != 999999 {
		t.Errorf("MaxVal = %d", impl.MaxVal)
	}
}

func TestNameOk(t *testing.T) {
	for size := 1; size <= 8; size++ {
		for _, letter := range []string{"a", "b", "m", "y", "z"} {
			if s := strings.Repeat(letter, size); !impl.NameOk(s) {
				t.Errorf("NameOk refuses %q", s)
			}
		}
	}
	for _, s := range wrongNames() {
		if impl.NameOk(s) {
			t.Errorf("NameOk takes %.20q", s)
		}
	}
	for b := 0; b < 256; b++ {
		letter := string([]byte{byte(b)})
		want := strings.Contains("abcdefghijklmnopqrstuvwxyz", letter)
		for _, s := range []string{letter, "a" + letter, letter + "z", "abc" + letter + "wxyz"} {
			if got := impl.NameOk(s); got != want {
				t.Errorf("NameOk(%q) = %v", s, got)
			}
		}
	}
}

func TestActOk(t *testing.T) {
	for _, a := range rightActs() {
		if !impl.ActOk(a) {
			t.Errorf("ActOk refuses %+v", a)
		}
	}
	for _, a := range wrongActs() {
		if impl.ActOk(a) {
			t.Errorf("ActOk takes %+v", a)
		}
	}
}

func TestRefOfAnActStandsWithinItsKnowledge(t *testing.T) {
	for _, row := range []struct {
		ref      impl.Dot
		ins, cut bool
	}{
		{impl.Dot{}, true, false},
		{impl.Dot{Rep: 0, Seq: 1}, true, true},
		{impl.Dot{Rep: 0, Seq: 5}, true, true},
		{impl.Dot{Rep: 0, Seq: 6}, false, false},
		{impl.Dot{Rep: 1, Seq: 0}, false, false},
		{impl.Dot{Rep: 1, Seq: 1000}, true, true},
		{impl.Dot{Rep: 1, Seq: 1001}, false, false},
		{impl.Dot{Rep: 2, Seq: 0}, false, false},
		{impl.Dot{Rep: 2, Seq: 1}, false, false},
		{impl.Dot{Rep: 0, Seq: -1}, false, false},
		{impl.Dot{Rep: -1, Seq: 1}, false, false},
		{impl.Dot{Rep: 3, Seq: 1}, false, false},
	} {
		a := impl.Act{Dot: impl.Dot{Rep: 0, Seq: 6}, Time: 5, Knew: []int{5, 1000, 0}, Obj: "o", Ref: row.ref}
		a.Kind = impl.AcIns
		if got := impl.ActOk(a); got != row.ins {
			t.Errorf("AcIns behind %v: %v", row.ref, got)
		}
		a.Kind = impl.AcCut
		if got := impl.ActOk(a); got != row.cut {
			t.Errorf("AcCut of %v: %v", row.ref, got)
		}
		a.Kind = impl.AcCount
		if got := impl.ActOk(a); got != (row.ref == impl.Dot{}) {
			t.Errorf("AcCount with %v: %v", row.ref, got)
		}
	}
}

func wantAct(t *testing.T, text string, at int, want impl.Act, behind int) {
	t.Helper()
	got, place, ok := impl.ReadAct(text, at)
	if !ok || place != behind || !reflect.DeepEqual(got, want) {
		t.Errorf("ReadAct(%.60q, %d) = %+v, %d, %v; want %+v, %d", text, at, got, place, ok, want, behind)
	}
}

func wantNoAct(t *testing.T, text string, at int) {
	t.Helper()
	a, place, ok := impl.ReadAct(text, at)
	if ok || place != 0 || len(a.Knew) != 0 || !impl.SameAct(a, impl.Act{}) {
		t.Errorf("ReadAct(%.60q, %d) = %+v, %d, %v; want nothing", text, at, a, place, ok)
	}
}

func TestTextOfEachKind(t *testing.T) {
	for _, row := range actsByKind() {
		got, ok := impl.ActText(row.act)
		if !ok || got != row.text {
			t.Errorf("ActText(%+v) = %q, %v; want %q", row.act, got, ok, row.text)
		}
		wantAct(t, row.text, 0, row.act, len(row.text))
	}
}

// plainActText writes what the document says without asking whether the act is right; false where a part has no bytes.
func plainActText(a impl.Act) (string, bool) {
	text := ""
	good := true
	add := func(part string, ok bool) { text, good = text+part, good && ok }
	for _, n := range append(append([]int{a.Dot.Rep, a.Dot.Seq, a.Time}, a.Knew...), a.Kind) {
		add(impl.VarText(n))
	}
	add(impl.ShortText(a.Obj))
	add(impl.ShortText(a.Key))
	for _, n := range []int{a.Val, a.Ref.Rep, a.Ref.Seq} {
		add(impl.VarText(n))
	}
	return text, good
}

func TestActsComeBackFromTheirTexts(t *testing.T) {
	long := bytesOf(300)
	for _, a := range rightActs() {
		before := ownAct(a)
		text, ok := impl.ActText(a)
		want, _ := plainActText(a)
		if !ok || text != want || !reflect.DeepEqual(a, before) {
			t.Fatalf("ActText(%+v) = %q, %v", a, text, ok)
		}
		wantAct(t, text, 0, a, len(text))
		wantAct(t, text+long, 0, a, len(text))
		wantAct(t, long+text, len(long), a, len(long)+len(text))
		wantAct(t, long+text+text, len(long), a, len(long)+len(text))
		wantAct(t, long+text+text, len(long)+len(text), a, len(long)+2*len(text))
	}
}

func TestActsOneBehindTheOther(t *testing.T) {
	all := ""
	for _, row := range actsByKind() {
		all += row.text
	}
	at := 0
	for _, row := range actsByKind() {
		wantAct(t, all, at, row.act, at+len(row.text))
		at += len(row.text)
	}
	wantNoAct(t, all, at)
}

func TestWrongActsHaveNoText(t *testing.T) {
	for _, a := range wrongActs() {
		if text, ok := impl.ActText(a); ok || text != "" {
			t.Errorf("ActText(%+v) = %q, %v", a, text, ok)
		}
		if text, ok := plainActText(a); ok {
			wantNoAct(t, text, 0)
			wantNoAct(t, "ab"+text+"cd", 2)
		}
	}
}

func TestTextsOfActsThatEndEarly(t *testing.T) {
	for _, a := range rightActs() {
		text, _ := impl.ActText(a)
		for end := range len(text) {
			wantNoAct(t, text[:end], 0)
			wantNoAct(t, "xyz"+text[:end], 3)
		}
	}
}

// partsOfActText cuts the text of an act into its numbers and short texts.
func partsOfActText(text string) []string {
	var parts []string
	at := 0
	for i := range impl.Reps + 9 {
		from := at
		if i == impl.Reps+4 || i == impl.Reps+5 {
			_, at, _ = impl.ReadShort(text, at)
		} else {
			_, at, _ = impl.ReadVar(text, at)
		}
		parts = append(parts, text[from:at])
	}
	return parts
}

func TestTextsOfActsWithOnePartElse(t *testing.T) {
	for _, row := range actsByKind() {
		parts := partsOfActText(row.text)
		if strings.Join(parts, "") != row.text {
			t.Fatalf("%q has the parts %q", row.text, parts)
		}
		for i, part := range parts {
			with := func(other string) string {
				return strings.Join(parts[:i], "") + other + strings.Join(parts[i+1:], "")
			}
			wantNoAct(t, with(""), 0)
			for _, n := range []int{impl.MaxVal + 1, impl.MaxNumber - 1, impl.MaxNumber} {
				above, _ := impl.VarText(n)
				wantNoAct(t, with(above), 0)
			}
			for _, broken := range []string{"\x80\x00", "\x81\x80\x00", "\xff\xff\xff\xff\x7f", "\x81\x94\xeb\xdc\x03", "\x80\x80\x80\x80\x80\x01", strings.Repeat("\xff", 20)} {
				wantNoAct(t, with(broken), 0)
			}
			// The same number, or length, with a needless byte behind it.
			first := strings.IndexFunc(part, func(r rune) bool { return r < 128 })
			longer := part[:first] + string([]byte{part[first] + 128, 0}) + part[first+1:]
			wantNoAct(t, with(longer), 0)
		}
	}
}

// readsPlainly tells an act from a changed text by the words of the document: one whose text stands there.
func readsPlainly(text string) bool {
	var n []int
	var names []string
	at, ok := 0, true
	for i := 0; i < impl.Reps+9 && ok; i++ {
		if i == impl.Reps+4 || i == impl.Reps+5 {
			var s string
			s, at, ok = impl.ReadShort(text, at)
			names = append(names, s)
		} else {
			var v int
			v, at, ok = impl.ReadVar(text, at)
			n = append(n, v)
		}
	}
	if !ok {
		return false
	}
	a := impl.Act{Dot: impl.Dot{Rep: n[0], Seq: n[1]}, Time: n[2], Knew: n[3:6], Kind: n[6], Obj: names[0], Key: names[1], Val: n[7], Ref: impl.Dot{Rep: n[8], Seq: n[9]}}
	back, right := impl.ActText(a)
	return right && back == text[:at]
}

func TestTextsOfActsWithAByteChanged(t *testing.T) {
	refused, taken := 0, 0
	for _, row := range actsByKind() {
		for i := range len(row.text) {
			for b := range 256 {
				bytes := []byte(row.text)
				if bytes[i] == byte(b) {
					continue
				}
				bytes[i] = byte(b)
				text := string(bytes)
				if !readsPlainly(text) {
					refused++
					wantNoAct(t, text, 0)
					continue
				}
				taken++
				a, behind, ok := impl.ReadAct(text, 0)
				back, right := impl.ActText(a)
				if !ok || !right || back != text[:behind] || impl.SameAct(a, row.act) {
					t.Errorf("ReadAct(%q) = %+v, %d, %v", text, a, behind, ok)
				}
			}
		}
	}
	if refused == 0 || taken == 0 {
		t.Errorf("%d refused, %d taken", refused, taken)
	}
}

func TestReadActAtPlacesThatAreNone(t *testing.T) {
	for _, row := range actsByKind() {
		for _, at := range []int{-1, -2, -len(row.text), len(row.text), len(row.text) + 1, math.MaxInt, math.MaxInt - 1, math.MinInt, math.MinInt + 1} {
			wantNoAct(t, row.text, at)
		}
	}
	for _, at := range []int{-1, 0, 1, math.MaxInt, math.MinInt} {
		wantNoAct(t, "", at)
	}
	for _, text := range []string{bytesOf(1000), strings.Repeat("\x00", 30), strings.Repeat("\x01", 30), strings.Repeat("\xff", 30), strings.Repeat("a", 30)} {
		for at := range len(text) {
			wantNoAct(t, text, at)
		}
	}
}

func TestSameAct(t *testing.T) {
	all := append(rightActs(), impl.Act{}, impl.Act{Time: -5, Knew: []int{1}, Kind: 99, Obj: "?"})
	for _, a := range all {
		if !impl.SameAct(a, ownAct(a)) {
			t.Errorf("%+v is not the same as itself", a)
		}
		for i, change := range []func(a *impl.Act){
			func(a *impl.Act) { a.Dot.Rep++ },
			func(a *impl.Act) { a.Dot.Seq-- },
			func(a *impl.Act) { a.Time++ },
			func(a *impl.Act) { a.Knew[0]++ },
			func(a *impl.Act) { a.Knew[len(a.Knew)-1]-- },
			func(a *impl.Act) { a.Knew = a.Knew[:len(a.Knew)-1] },
			func(a *impl.Act) { a.Knew = append(a.Knew, 0) },
			func(a *impl.Act) { a.Knew = nil },
			func(a *impl.Act) { a.Kind-- },
			func(a *impl.Act) { a.Obj += "a" },
			func(a *impl.Act) { a.Obj = "" },
			func(a *impl.Act) { a.Key += "a" },
			func(a *impl.Act) { a.Val++ },
			func(a *impl.Act) { a.Ref.Rep++ },
			func(a *impl.Act) { a.Ref.Seq-- },
		} {
			if len(a.Knew) == 0 && (i == 3 || i == 4 || i == 5 || i == 7 || i == 10) {
				continue
			}
			b := changedAct(a, change)
			if impl.SameAct(a, b) || impl.SameAct(b, a) {
				t.Errorf("%+v is the same as %+v", a, b)
			}
		}
	}
	if !impl.SameAct(impl.Act{Knew: nil}, impl.Act{Knew: []int{}}) {
		t.Error("nil and an empty list are not the same")
	}
}

func TestLater(t *testing.T) {
	at := func(time, rep int) impl.Act {
		return impl.Act{Dot: impl.Dot{Rep: rep, Seq: 1}, Time: time, Knew: []int{0, 0, 0}, Kind: impl.AcCount, Obj: "c"}
	}
	for _, row := range []struct {
		a, b         impl.Act
		later, other bool
	}{
		{at(2, 0), at(1, 0), true, false},
		{at(2, 0), at(1, 2), true, false},
		{at(lastTime, 0), at(lastTime-1, 2), true, false},
		{at(5, 1), at(5, 0), true, false},
		{at(5, 2), at(5, 1), true, false},
		{at(5, 1), at(5, 1), false, false},
		{at(math.MaxInt, 0), at(math.MinInt, 0), true, false},
		{at(0, math.MaxInt), at(0, math.MinInt), true, false},
		{at(0, math.MinInt), at(-1, math.MaxInt), true, false},
		{impl.Act{}, impl.Act{}, false, false},
	} {
		if got := impl.Later(row.a, row.b); got != row.later {
			t.Errorf("Later(%+v, %+v) = %v", row.a, row.b, got)
		}
		if got := impl.Later(row.b, row.a); got != row.other {
			t.Errorf("Later(%+v, %+v) = %v", row.b, row.a, got)
		}
	}
}

func TestLaterLooksAtTimeAndRepAlone(t *testing.T) {
	a := impl.Act{Dot: impl.Dot{Rep: 1, Seq: 1}, Time: 5, Knew: []int{0, 0, 0}, Kind: impl.AcCount, Obj: "c"}
	b := impl.Act{Dot: impl.Dot{Rep: 1, Seq: 900}, Time: 5, Knew: []int{1, 899, 2}, Kind: impl.AcIns, Obj: "r", Key: "k", Val: 8, Ref: impl.Dot{Rep: 2, Seq: 2}}
	if impl.Later(a, b) || impl.Later(b, a) {
		t.Error("one of two with the same Time and Rep is later")
	}
}

func TestActsAreNewMemory(t *testing.T) {
	for _, row := range actsByKind() {
		text := strings.Clone(row.text)
		a, _, _ := impl.ReadAct(text, 0)
		if sharesMemory(a.Obj, text) || sharesMemory(a.Key, text) || len(a.Key) > 1 && sharesMemory(a.Key, a.Obj) {
			t.Errorf("the names of %+v stand in its text", a)
		}
		again, _, _ := impl.ReadAct(text, 0)
		again.Knew[0] = 77
		if !impl.SameAct(a, row.act) {
			t.Errorf("a write into a second act came to the first one: %+v", a)
		}
		written, _ := impl.ActText(a)
		if sharesMemory(written, a.Obj) || sharesMemory(written, a.Key) {
			t.Errorf("the text of %+v stands in its names", a)
		}
	}
}
