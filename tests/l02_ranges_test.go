package tests

import (
	"slices"
	"testing"

	"loop.example/g00707/impl"
)

// smallEnds, and smallRanges of them, have all kinds of ranges: right ones,
// turned ones, ones of a single number, ones that reach an end or pass it.
var smallEnds = []int64{-1 << 63, -impl.MaxComp - 1, -impl.MaxComp, -2, -1, 0, 1, 2, impl.MaxComp, impl.MaxComp + 1, 1<<63 - 1}

func smallRanges() []impl.Range {
	l := []impl.Range{}
	for _, lo := range smallEnds {
		for _, hi := range smallEnds {
			l = append(l, impl.Range{Lo: lo, Hi: hi})
		}
	}
	return l
}

func isRight(r impl.Range) bool {
	return r.Lo >= -impl.MaxComp && r.Hi <= impl.MaxComp && r.Lo <= r.Hi
}

func isIn(r impl.Range, x int64) bool {
	return isRight(r) && r.Lo <= x && x <= r.Hi
}

func TestRangeOkAndHas(t *testing.T) {
	for _, r := range smallRanges() {
		if impl.RangeOk(r) != isRight(r) {
			t.Error("right", r)
		}
		for _, x := range smallEnds {
			if impl.RangeHas(r, x) != isIn(r, x) {
				t.Error("has", r, x)
			}
		}
	}
	for _, x := range smallEnds {
		one := impl.Range{Lo: x, Hi: x}
		if impl.RangeHas(one, x) != impl.VecOk([]int64{x}) || impl.RangeHas(one, x-1) || impl.RangeHas(one, x+1) {
			t.Error("a range of one number", one)
		}
	}
}

func TestRangeLeq(t *testing.T) {
	for _, a := range smallRanges() {
		for _, b := range smallRanges() {
			want := isRight(a) && isRight(b)
			for _, x := range smallEnds {
				want = want && (!isIn(a, x) || isIn(b, x))
			}
			if impl.RangeLeq(a, b) != want {
				t.Error(a, b, want)
			}
		}
	}
}

func TestPromise2JoinHasAllOfBoth(t *testing.T) {
	for _, a := range smallRanges() {
		for _, b := range smallRanges() {
			j := impl.RangeJoin(a, b)
			if !isRight(a) || !isRight(b) {
				if j != (impl.Range{}) {
					t.Error("not right", a, b, j)
				}
				continue
			}
			if !isRight(j) {
				t.Error("the join is not right", a, b, j)
			}
			for _, x := range smallEnds {
				if (isIn(a, x) || isIn(b, x)) && !isIn(j, x) {
					t.Error("not in the join", a, b, x)
				}
			}
			for _, end := range []int64{j.Lo, j.Hi} {
				if !slices.Contains([]int64{a.Lo, a.Hi, b.Lo, b.Hi}, end) {
					t.Error("not the least", a, b, j)
				}
			}
		}
	}
}

func TestPromise2MeetHasJustWhatBothHave(t *testing.T) {
	for _, a := range smallRanges() {
		for _, b := range smallRanges() {
			m, ok := impl.RangeMeet(a, b)
			some := false
			for _, x := range smallEnds {
				both := isIn(a, x) && isIn(b, x)
				some = some || both
				if (ok && isIn(m, x)) != both {
					t.Error("number", a, b, m, x)
				}
			}
			if ok != some || !ok && m != (impl.Range{}) {
				t.Error("flag", a, b, m, ok)
			}
		}
	}
}

func TestRangeMeetAtTheEdge(t *testing.T) {
	r := func(lo, hi int64) impl.Range { return impl.Range{Lo: lo, Hi: hi} }
	if m, ok := impl.RangeMeet(r(1, 5), r(5, 9)); !ok || m != r(5, 5) {
		t.Error("one number", m, ok)
	}
	if m, ok := impl.RangeMeet(r(1, 5), r(6, 9)); ok || m != r(0, 0) {
		t.Error("none", m, ok)
	}
	if m, ok := impl.RangeMeet(r(6, 9), r(1, 5)); ok || m != r(0, 0) {
		t.Error("none, turned", m, ok)
	}
}

func TestPromise2RangesHaveAllAndEndsAreNumbers(t *testing.T) {
	d := dice{7}
	for dim := 1; dim <= impl.MaxDim; dim++ {
		for _, count := range []int{1, 2, 3, 17, impl.MaxItems - 1, impl.MaxItems} {
			l := d.vectors(count, dim)
			ranges, ok := impl.RangesOf(l)
			if !ok || len(ranges) != dim {
				t.Fatal(l, ranges, ok)
			}
			for place, r := range ranges {
				at := []int64{}
				for _, v := range l {
					at = append(at, v[place])
					if !impl.RangeHas(r, v[place]) {
						t.Fatal("not in its range", place, r, v)
					}
				}
				if !slices.Contains(at, r.Lo) || !slices.Contains(at, r.Hi) {
					t.Fatal("an end is no number of one", place, r, at)
				}
			}
		}
	}
}

func TestRangesOfWrong(t *testing.T) {
	d := dice{8}
	wrong := [][][]int64{
		nil,
		{},
		{nil},
		d.vectors(impl.MaxItems+1, 1),
		d.vectors(impl.MaxItems+1, impl.MaxDim),
		{{1}, {1, 2}},
		{{1, 2}, {1}},
		{{1, 2}, {3, 4}, {5, 6, 7}},
		{{0}, make([]int64, impl.MaxDim)},
	}
	for _, v := range wrongVectors() {
		right := make([]int64, max(1, min(len(v), impl.MaxDim)))
		wrong = append(wrong, [][]int64{v}, [][]int64{v, v}, [][]int64{v, right}, [][]int64{right, right, v})
	}
	for _, l := range wrong {
		if ranges, ok := impl.RangesOf(l); ok || len(ranges) != 0 {
			t.Error(l, ranges)
		}
	}
}

func TestRangesOfEdges(t *testing.T) {
	const far = impl.MaxComp
	same := slices.Repeat([][]int64{{far, -far, 3}}, impl.MaxItems)
	want := []impl.Range{{Lo: far, Hi: far}, {Lo: -far, Hi: -far}, {Lo: 3, Hi: 3}}
	if got, ok := impl.RangesOf(same); !ok || !slices.Equal(got, want) {
		t.Error("all alike", got, ok)
	}
	if got, ok := impl.RangesOf([][]int64{{-far}, {far}}); !ok || !slices.Equal(got, []impl.Range{{Lo: -far, Hi: far}}) {
		t.Error("from end to end", got, ok)
	}
}

func TestPromise15RangesLeaveArgumentsAlone(t *testing.T) {
	a, b := []int64{1, -2, 3}, []int64{4, 5, -6}
	l := [][]int64{roomy(a), roomy(b), {9, 9, 9}}
	short := l[:2]
	first, _ := impl.RangesOf(short)
	kept := slices.Clone(first)
	first = first[:cap(first)]
	for i := range first {
		first[i] = impl.Range{Lo: -99, Hi: -99}
	}
	if !untouched(l[0], a) || !untouched(l[1], b) || !slices.Equal(l[2], []int64{9, 9, 9}) {
		t.Error("an argument is changed", l)
	}
	if again, _ := impl.RangesOf(short); !slices.Equal(again, kept) {
		t.Error("another answer the second time", kept, again)
	}
}
