package tests

import (
	"math"
	"slices"
	"testing"

	"loop.example/g00463/impl"
)

// numbersKnown are the numbers that a knowledge may have, about its limits and between them.
var numbersKnown = []int{0, 1, 2, 17, impl.MaxSeq - 1, impl.MaxSeq}

var numbersNotKnown = []int{-1, -2, -impl.MaxSeq, impl.MaxSeq + 1, impl.MaxSeq + 2, 2 * impl.MaxSeq, math.MaxInt, math.MinInt}

func rightKnowledges() [][]int {
	var out [][]int
	for _, a := range numbersKnown {
		for _, b := range numbersKnown {
			for _, c := range numbersKnown {
				out = append(out, []int{a, b, c})
			}
		}
	}
	return out
}

func wrongKnowledges() [][]int {
	out := [][]int{nil, {}, {0}, {1}, {0, 0}, {5, 6}, {0, 0, 0, 0}, {5, 6, 7, 8}, {0, 0, 0, -1}, make([]int, 2*impl.Reps), make([]int, 1000)}
	for _, n := range numbersNotKnown {
		for rep := range impl.Reps {
			k := []int{3, 4, 5}
			k[rep] = n
			out = append(out, k)
		}
		out = append(out, []int{n, n, n}, []int{n, n}, []int{n, n, n, n})
	}
	return out
}

func wrongDots() []impl.Dot {
	var out []impl.Dot
	for _, rep := range []int{-1, -impl.Reps, impl.Reps, impl.Reps + 1, math.MaxInt, math.MinInt} {
		for _, seq := range []int{0, 1, 2, impl.MaxSeq, impl.MaxSeq + 1, -1, math.MaxInt, math.MinInt} {
			out = append(out, impl.Dot{Rep: rep, Seq: seq})
		}
	}
	for rep := range impl.Reps {
		for _, seq := range []int{0, -1, -impl.MaxSeq, impl.MaxSeq + 1, 2 * impl.MaxSeq, math.MaxInt, math.MinInt} {
			out = append(out, impl.Dot{Rep: rep, Seq: seq})
		}
	}
	return out
}

// plainDots asks of every dot that there is whether b has it and a has not.
func plainDots(a, b []int) []impl.Dot {
	var out []impl.Dot
	for rep := 0; rep < impl.Reps; rep++ {
		for seq := 1; seq <= impl.MaxSeq; seq++ {
			if seq <= b[rep] && seq > a[rep] {
				out = append(out, impl.Dot{Rep: rep, Seq: seq})
			}
		}
	}
	return out
}

func TestLimitsOfKnowledge(t *testing.T) {
	if impl.Reps != 3 || impl.MaxSeq != 1000 {
		t.Errorf("Reps = %d, MaxSeq = %d", impl.Reps, impl.MaxSeq)
	}
}

func TestKnowOk(t *testing.T) {
	for _, k := range rightKnowledges() {
		if !impl.KnowOk(k) {
			t.Errorf("KnowOk refuses %v", k)
		}
	}
	for _, k := range wrongKnowledges() {
		if impl.KnowOk(k) {
			t.Errorf("KnowOk takes %v", k)
		}
	}
}

func TestKnowNewKnowsNothing(t *testing.T) {
	nothing := impl.KnowNew()
	if !slices.Equal(nothing, []int{0, 0, 0}) || !impl.KnowOk(nothing) {
		t.Errorf("KnowNew() = %v", nothing)
	}
	for rep := -1; rep <= impl.Reps; rep++ {
		for seq := -1; seq <= impl.MaxSeq+1; seq++ {
			if impl.Knows(nothing, impl.Dot{Rep: rep, Seq: seq}) {
				t.Errorf("nothing knows %d of %d", seq, rep)
			}
		}
	}
	for _, k := range rightKnowledges() {
		if !impl.KnowIn(nothing, k) || !slices.Equal(impl.KnowMax(nothing, k), k) || !slices.Equal(impl.KnowMin(k, nothing), nothing) {
			t.Errorf("nothing beside %v", k)
		}
	}
	nothing[1] = 5
	if again := impl.KnowNew(); !slices.Equal(again, []int{0, 0, 0}) {
		t.Errorf("KnowNew() after a write into an earlier one = %v", again)
	}
}

func TestDotOk(t *testing.T) {
	for rep := range impl.Reps {
		for _, seq := range []int{1, 2, 500, impl.MaxSeq - 1, impl.MaxSeq} {
			if d := (impl.Dot{Rep: rep, Seq: seq}); !impl.DotOk(d) {
				t.Errorf("DotOk refuses %v", d)
			}
		}
	}
	for _, d := range wrongDots() {
		if impl.DotOk(d) {
			t.Errorf("DotOk takes %v", d)
		}
	}
}

func TestKnowsUpToItsNumber(t *testing.T) {
	for _, k := range rightKnowledges() {
		for rep, n := range k {
			for _, seq := range []int{1, n - 1, n, n + 1, n + 2, impl.MaxSeq, impl.MaxSeq + 1} {
				want := seq >= 1 && seq <= n
				if got := impl.Knows(k, impl.Dot{Rep: rep, Seq: seq}); got != want {
					t.Errorf("Knows(%v, %d of %d) = %v", k, seq, rep, got)
				}
			}
		}
		for _, d := range wrongDots() {
			if impl.Knows(k, d) {
				t.Errorf("%v knows %v, which is not right", k, d)
			}
		}
	}
}

func TestWrongKnowledgeKnowsNothing(t *testing.T) {
	for _, k := range wrongKnowledges() {
		for rep := range impl.Reps {
			for _, seq := range []int{1, 2, 3, impl.MaxSeq} {
				if impl.Knows(k, impl.Dot{Rep: rep, Seq: seq}) {
					t.Errorf("Knows(%v, %d of %d)", k, seq, rep)
				}
			}
		}
		for _, d := range wrongDots() {
			if impl.Knows(k, d) {
				t.Errorf("Knows(%v, %v)", k, d)
			}
		}
	}
}

func TestOfTwoKnowledges(t *testing.T) {
	for _, row := range []struct {
		a, b, most, least []int
		in                bool
		dots              []impl.Dot
	}{
		{[]int{1, 0, 2}, []int{0, 2, 2}, []int{1, 2, 2}, []int{0, 0, 2}, false, []impl.Dot{{Rep: 1, Seq: 1}, {Rep: 1, Seq: 2}}},
		{[]int{0, 2, 2}, []int{1, 0, 2}, []int{1, 2, 2}, []int{0, 0, 2}, false, []impl.Dot{{Rep: 0, Seq: 1}}},
		{[]int{3, 4, 5}, []int{5, 4, 3}, []int{5, 4, 5}, []int{3, 4, 3}, false, []impl.Dot{{Rep: 0, Seq: 4}, {Rep: 0, Seq: 5}}},
		{[]int{7, 0, 999}, []int{8, 1, 1000}, []int{8, 1, 1000}, []int{7, 0, 999}, true, []impl.Dot{{Rep: 0, Seq: 8}, {Rep: 1, Seq: 1}, {Rep: 2, Seq: 1000}}},
		{[]int{8, 1, 1000}, []int{7, 0, 999}, []int{8, 1, 1000}, []int{7, 0, 999}, false, nil},
		{[]int{4, 4, 4}, []int{4, 4, 4}, []int{4, 4, 4}, []int{4, 4, 4}, true, nil},
		{[]int{0, 0, 0}, []int{0, 0, 0}, []int{0, 0, 0}, []int{0, 0, 0}, true, nil},
		{[]int{1000, 0, 0}, []int{1000, 0, 1}, []int{1000, 0, 1}, []int{1000, 0, 0}, true, []impl.Dot{{Rep: 2, Seq: 1}}},
	} {
		if got := impl.KnowMax(row.a, row.b); !slices.Equal(got, row.most) {
			t.Errorf("KnowMax(%v, %v) = %v", row.a, row.b, got)
		}
		if got := impl.KnowMin(row.a, row.b); !slices.Equal(got, row.least) {
			t.Errorf("KnowMin(%v, %v) = %v", row.a, row.b, got)
		}
		if got := impl.KnowIn(row.a, row.b); got != row.in {
			t.Errorf("KnowIn(%v, %v) = %v", row.a, row.b, got)
		}
		if got := impl.DotsIn(row.a, row.b); !slices.Equal(got, row.dots) {
			t.Errorf("DotsIn(%v, %v) = %v", row.a, row.b, got)
		}
	}
}

func TestWhatBothKnowIsWhatEitherKnows(t *testing.T) {
	all := rightKnowledges()
	for _, a := range all {
		for _, b := range all {
			most, least := impl.KnowMax(a, b), impl.KnowMin(a, b)
			if !slices.Equal(most, impl.KnowMax(b, a)) || !slices.Equal(least, impl.KnowMin(b, a)) {
				t.Errorf("%v and %v: not the same both ways round", a, b)
			}
			for _, k := range [][]int{a, b} {
				if !impl.KnowIn(k, most) || !impl.KnowIn(least, k) {
					t.Errorf("%v is not between %v and %v", k, least, most)
				}
			}
			for rep := range impl.Reps {
				for _, seq := range []int{1, a[rep], a[rep] + 1, b[rep], b[rep] + 1, impl.MaxSeq} {
					d := impl.Dot{Rep: rep, Seq: seq}
					inA, inB := impl.Knows(a, d), impl.Knows(b, d)
					if impl.Knows(most, d) != (inA || inB) || impl.Knows(least, d) != (inA && inB) {
						t.Errorf("%v and %v: %v is known otherwise to %v, %v", a, b, d, most, least)
					}
				}
			}
		}
	}
}

func TestKnowInIsNoDotLeft(t *testing.T) {
	all := rightKnowledges()
	for _, a := range all {
		for _, b := range all {
			want := a[0] <= b[0] && a[1] <= b[1] && a[2] <= b[2]
			if impl.KnowIn(a, b) != want {
				t.Errorf("KnowIn(%v, %v) = %v", a, b, !want)
			}
			if none := len(impl.DotsIn(b, a)) == 0; none != want {
				t.Errorf("DotsIn(%v, %v) is empty: %v", b, a, none)
			}
		}
	}
}

func TestDotsInOfAll(t *testing.T) {
	all := rightKnowledges()
	for i, a := range all {
		// Every seventh one is enough beside each, since seven has nothing in common with six.
		for j := i % 7; j < len(all); j += 7 {
			b := all[j]
			got := impl.DotsIn(a, b)
			if !slices.Equal(got, plainDots(a, b)) {
				t.Fatalf("DotsIn(%v, %v) has %d dots", a, b, len(got))
			}
			for _, d := range got {
				if impl.Knows(a, d) || !impl.Knows(b, d) {
					t.Fatalf("DotsIn(%v, %v) has %v", a, b, d)
				}
			}
		}
	}
}

func TestDotsInFromNothingToAll(t *testing.T) {
	nothing, all := impl.KnowNew(), []int{impl.MaxSeq, impl.MaxSeq, impl.MaxSeq}
	dots := impl.DotsIn(nothing, all)
	if len(dots) != impl.Reps*impl.MaxSeq {
		t.Fatalf("%d dots from nothing to all", len(dots))
	}
	for i, d := range dots {
		if want := (impl.Dot{Rep: i / impl.MaxSeq, Seq: i%impl.MaxSeq + 1}); d != want {
			t.Fatalf("the dot at %d is %v", i, d)
		}
	}
	if back := impl.DotsIn(all, nothing); len(back) != 0 {
		t.Errorf("%d dots from all to nothing", len(back))
	}
}

func TestKnowledgeBesideItself(t *testing.T) {
	for _, k := range rightKnowledges() {
		same := slices.Clone(k)
		if !slices.Equal(impl.KnowMax(k, same), k) || !slices.Equal(impl.KnowMin(k, same), k) {
			t.Errorf("%v beside itself is another one", k)
		}
		if !impl.KnowIn(k, same) || !impl.KnowIn(same, k) || len(impl.DotsIn(k, same)) != 0 {
			t.Errorf("%v is not within itself", k)
		}
		if !impl.KnowIn(k, k) || len(impl.DotsIn(k, k)) != 0 {
			t.Errorf("%v handed in twice is not within itself", k)
		}
	}
}

func wantNothing(t *testing.T, a, b []int) {
	t.Helper()
	if got := impl.KnowMax(a, b); len(got) != 0 {
		t.Errorf("KnowMax(%v, %v) = %v", a, b, got)
	}
	if got := impl.KnowMin(a, b); len(got) != 0 {
		t.Errorf("KnowMin(%v, %v) = %v", a, b, got)
	}
	if got := impl.DotsIn(a, b); len(got) != 0 {
		t.Errorf("DotsIn(%v, %v) = %v", a, b, got)
	}
	if impl.KnowIn(a, b) {
		t.Errorf("KnowIn(%v, %v)", a, b)
	}
}

func TestWrongKnowledgesHaveNothing(t *testing.T) {
	for _, wrong := range wrongKnowledges() {
		for _, right := range [][]int{{0, 0, 0}, {3, 4, 5}, {4, 5, 6}, {1, 2, 3}, {impl.MaxSeq, impl.MaxSeq, impl.MaxSeq}} {
			wantNothing(t, wrong, right)
			wantNothing(t, right, wrong)
		}
		for _, other := range wrongKnowledges() {
			wantNothing(t, wrong, other)
		}
		wantNothing(t, wrong, wrong)
	}
}

func TestKnowledgesAreNewMemory(t *testing.T) {
	whole := []int{1, 2, 3, 77}
	a, b := whole[:3], []int{2, 2, 2}
	for _, made := range [][]int{impl.KnowMax(a, b), impl.KnowMin(a, b), impl.KnowMax(a, a), impl.KnowMin(b, b)} {
		made = append(made, 99)
		made[0], made[1], made[2] = 50, 51, 52
		if !slices.Equal(whole, []int{1, 2, 3, 77}) || !slices.Equal(b, []int{2, 2, 2}) {
			t.Fatalf("an answer lies in an argument: %v, %v", whole, b)
		}
	}
	dots := impl.DotsIn(a, b)
	dots[0] = impl.Dot{Rep: 9, Seq: 9}
	if again := impl.DotsIn(a, b); !slices.Equal(again, []impl.Dot{{Rep: 0, Seq: 2}}) {
		t.Errorf("DotsIn after a write into an earlier answer = %v", again)
	}
	if !slices.Equal(whole, []int{1, 2, 3, 77}) || !slices.Equal(b, []int{2, 2, 2}) {
		t.Errorf("an argument was written into: %v, %v", whole, b)
	}
}
