package tests

import (
	"slices"
	"testing"

	"loop.example/g00707/impl"
)

func (d *dice) rightRange() impl.Range {
	a, b := d.number(), d.number()
	return impl.Range{Lo: min(a, b), Hi: max(a, b)}
}

func (d *dice) box(dim int) []impl.Range {
	l := make([]impl.Range, dim)
	for i := range l {
		l[i] = d.rightRange()
	}
	return l
}

func (d *dice) numberOf(r impl.Range) int64 {
	switch d.upTo(3) {
	case 0:
		return r.Lo
	case 1:
		return r.Hi
	}
	return r.Lo + d.upTo(r.Hi-r.Lo+1)
}

func (d *dice) vectorOf(l []impl.Range) []int64 {
	v := make([]int64, len(l))
	for i, r := range l {
		v[i] = d.numberOf(r)
	}
	return v
}

// smallBoxes are all of one range, and all of two, within a few numbers.
func smallBoxes() [][]impl.Range {
	ranges := []impl.Range{}
	for lo := int64(-2); lo <= 2; lo++ {
		for hi := lo; hi <= 2; hi++ {
			ranges = append(ranges, impl.Range{Lo: lo, Hi: hi})
		}
	}
	l := [][]impl.Range{}
	for _, a := range ranges {
		l = append(l, []impl.Range{a})
		for _, b := range ranges {
			l = append(l, []impl.Range{a, b})
		}
	}
	return l
}

// allOf is every vector of a box.
func allOf(l []impl.Range) [][]int64 {
	all := [][]int64{{}}
	for _, r := range l {
		more := [][]int64{}
		for _, v := range all {
			for x := r.Lo; x <= r.Hi; x++ {
				more = append(more, append(slices.Clone(v), x))
			}
		}
		all = more
	}
	return all
}

func wrongBoxes() [][]impl.Range {
	l := [][]impl.Range{nil, {}, make([]impl.Range, impl.MaxDim+1), make([]impl.Range, 100)}
	for _, r := range wrongRanges() {
		l = append(l, []impl.Range{r}, []impl.Range{{}, r}, []impl.Range{r, {}})
		full := make([]impl.Range, impl.MaxDim)
		full[impl.MaxDim-1] = r
		l = append(l, full)
	}
	return l
}

func TestBoxOk(t *testing.T) {
	d := dice{41}
	for dim := 1; dim <= impl.MaxDim; dim++ {
		for n := 0; n < 50; n++ {
			if l := d.box(dim); !impl.BoxOk(l) {
				t.Error("a box is refused", l)
			}
		}
	}
	for _, l := range wrongBoxes() {
		if impl.BoxOk(l) {
			t.Error("no box is taken", l)
		}
	}
}

func TestBoxHas(t *testing.T) {
	d := dice{42}
	for dim := 1; dim <= impl.MaxDim; dim++ {
		for n := 0; n < 200; n++ {
			l := d.box(dim)
			v := d.vectorOf(l)
			if !impl.BoxHas(l, v) {
				t.Fatal("within", l, v)
			}
			place := int(d.upTo(int64(dim)))
			for _, x := range []int64{l[place].Lo - 1, l[place].Hi + 1, -1 << 63, 1<<63 - 1} {
				v[place] = x
				if impl.BoxHas(l, v) {
					t.Fatal("beyond", l, v)
				}
			}
		}
	}
}

func TestBoxHasWrong(t *testing.T) {
	for _, l := range wrongBoxes() {
		if impl.BoxHas(l, make([]int64, len(l))) || impl.BoxHas(l, []int64{0}) {
			t.Error("no box", l)
		}
	}
	l := []impl.Range{{Lo: -5, Hi: 5}, {Lo: -5, Hi: 5}}
	for _, v := range append(wrongVectors(), []int64{0}, []int64{0, 0, 0}) {
		if impl.BoxHas(l, v) {
			t.Error("no vector of as many numbers", v)
		}
	}
}

func TestBoxLeq(t *testing.T) {
	for _, a := range smallBoxes() {
		for _, b := range smallBoxes() {
			want := len(a) == len(b)
			for place := range a {
				want = want && b[place].Lo <= a[place].Lo && a[place].Hi <= b[place].Hi
			}
			if impl.BoxLeq(a, b) != want {
				t.Fatal(a, b, want)
			}
		}
	}
	for _, l := range wrongBoxes() {
		right := make([]impl.Range, max(1, min(len(l), impl.MaxDim)))
		if impl.BoxLeq(l, right) || impl.BoxLeq(right, l) || impl.BoxLeq(l, l) {
			t.Error("no box", l)
		}
	}
}

func TestBoxJoin(t *testing.T) {
	for _, a := range smallBoxes() {
		for _, b := range smallBoxes() {
			j, ok := impl.BoxJoin(a, b)
			if ok != (len(a) == len(b)) || !ok && len(j) != 0 {
				t.Fatal(a, b, j, ok)
			}
			for place := range j {
				if len(j) != len(a) || j[place] != impl.RangeJoin(a[place], b[place]) {
					t.Fatal(a, b, j)
				}
			}
		}
	}
	for _, l := range wrongBoxes() {
		right := make([]impl.Range, max(1, min(len(l), impl.MaxDim)))
		for _, two := range [][2][]impl.Range{{l, right}, {right, l}, {l, l}} {
			if j, ok := impl.BoxJoin(two[0], two[1]); ok || len(j) != 0 {
				t.Error("no box", l, j)
			}
		}
	}
}

// Of small boxes every vector is asked: the bounds are the least and the
// greatest distance of all of them.
func TestPromise4BoundsOfAllThatABoxHas(t *testing.T) {
	for _, l := range smallBoxes() {
		wide := slices.Repeat([]impl.Range{{Lo: -4, Hi: 4}}, len(l))
		for _, q := range allOf(wide) {
			low, high := int64(1<<62), int64(-1)
			for _, v := range allOf(l) {
				low, high = min(low, impl.DistOf(q, v)), max(high, impl.DistOf(q, v))
			}
			if a, b := impl.LowOf(l, q), impl.HighOf(l, q); a != low || b != high {
				t.Fatal(l, q, a, b, low, high)
			}
		}
	}
}

func TestPromise4BoundsOfGreatBoxes(t *testing.T) {
	d := dice{43}
	for dim := 1; dim <= impl.MaxDim; dim++ {
		for n := 0; n < 300; n++ {
			l, q := d.box(dim), d.vector(dim)
			low, high := impl.LowOf(l, q), impl.HighOf(l, q)
			for m := 0; m < 20; m++ {
				if v := d.vectorOf(l); impl.DistOf(q, v) < low || impl.DistOf(q, v) > high {
					t.Fatal("beyond the bounds", l, q, v, low, high)
				}
			}
			near, far := nearAndFar(l, q)
			if impl.DistOf(q, near) != low || impl.DistOf(q, far) != high {
				t.Fatal("no distance of one that it has", l, q, low, high)
			}
		}
	}
}

// nearAndFar are two vectors of the box: the number nearest to q's at each
// place, and the end farthest from it.
func nearAndFar(l []impl.Range, q []int64) ([]int64, []int64) {
	near, far := make([]int64, len(l)), make([]int64, len(l))
	for i, r := range l {
		near[i] = min(max(q[i], r.Lo), r.Hi)
		far[i] = r.Lo
		if (q[i]-r.Lo)*(q[i]-r.Lo) < (q[i]-r.Hi)*(q[i]-r.Hi) {
			far[i] = r.Hi
		}
	}
	return near, far
}

func TestBoundsAtTheEdges(t *testing.T) {
	const far = impl.MaxComp
	all := slices.Repeat([]impl.Range{{Lo: -far, Hi: far}}, impl.MaxDim)
	corner := slices.Repeat([]int64{far}, impl.MaxDim)
	if a, b := impl.LowOf(all, corner), impl.HighOf(all, corner); a != 0 || b != 1<<45 {
		t.Error("the corner of all", a, b)
	}
	point := slices.Repeat([]impl.Range{{Lo: -far, Hi: -far}}, impl.MaxDim)
	if a, b := impl.LowOf(point, corner), impl.HighOf(point, corner); a != 1<<45 || b != 1<<45 {
		t.Error("the farthest point", a, b)
	}
	one := []impl.Range{{Lo: 3, Hi: 7}}
	for _, w := range [][3]int64{{5, 0, 4}, {3, 0, 16}, {7, 0, 16}, {2, 1, 25}, {8, 1, 25}, {0, 9, 49}, {-1, 16, 64}} {
		if a, b := impl.LowOf(one, w[:1]), impl.HighOf(one, w[:1]); a != w[1] || b != w[2] {
			t.Error(w, a, b)
		}
	}
}

func TestBoundsWrong(t *testing.T) {
	none := func(l []impl.Range, q []int64) {
		if a, b := impl.LowOf(l, q), impl.HighOf(l, q); a != -1 || b != -1 {
			t.Error(l, q, a, b)
		}
	}
	for _, l := range wrongBoxes() {
		none(l, make([]int64, len(l)))
		none(l, []int64{0})
	}
	for _, q := range wrongVectors() {
		none(make([]impl.Range, max(1, min(len(q), impl.MaxDim))), q)
	}
	for dim := 1; dim <= impl.MaxDim; dim++ {
		none(make([]impl.Range, dim), make([]int64, dim-1))
		none(make([]impl.Range, dim), make([]int64, dim+1))
	}
}

func TestPromise15BoundsLeaveArgumentsAlone(t *testing.T) {
	first := []impl.Range{{Lo: 1, Hi: 4}, {Lo: -3, Hi: 0}, {Lo: 9, Hi: 9}, {Lo: 8, Hi: 8}}
	second := []impl.Range{{Lo: 3, Hi: 5}, {Lo: -9, Hi: 2}, {Lo: 7, Hi: 7}, {Lo: 6, Hi: 6}}
	v := []int64{2, -1}
	a, b, q := slices.Clone(first), slices.Clone(second), roomy(v)
	answers := func() ([]impl.Range, []int64, []bool) {
		j, ok := impl.BoxJoin(a[:2], b[:2])
		return j, []int64{impl.LowOf(a[:2], q), impl.HighOf(a[:2], q)}, []bool{ok, impl.BoxOk(a[:2]), impl.BoxHas(a[:2], q), impl.BoxLeq(a[:2], b[:2])}
	}
	j, bounds, flags := answers()
	kept := slices.Clone(j)
	for i := range j[:cap(j)] {
		j[:cap(j)][i] = impl.Range{Lo: -99, Hi: -99}
	}
	if !slices.Equal(a, first) || !slices.Equal(b, second) || !untouched(q, v) {
		t.Error("an argument is changed", a, b, q)
	}
	again, boundsAgain, flagsAgain := answers()
	if !slices.Equal(again, kept) || !slices.Equal(bounds, boundsAgain) || !slices.Equal(flags, flagsAgain) {
		t.Error("another answer the second time", kept, again)
	}
}
