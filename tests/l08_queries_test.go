package tests

import (
	"slices"
	"testing"

	"loop.example/g00707/impl"
)

// closeItems have few numbers, so that many are equally far from a vector.
func (d *dice) closeItems(count int, dim int) []impl.Item {
	l := d.items(count, dim)
	for _, i := range l {
		for place := range i.Vec {
			i.Vec[place] = d.upTo(3) - 1
		}
	}
	return l
}

// apart is the distance, summed up as the document's words say it.
func apart(a []int64, b []int64) int64 {
	sum := int64(0)
	for place := range a {
		sum += (a[place] - b[place]) * (a[place] - b[place])
	}
	return sum
}

// nearsAsTold are those of all items that match, by Id.
func nearsAsTold(l []impl.Item, q []int64, mask int64) []impl.Near {
	out := []impl.Near{}
	for _, i := range l {
		if i.Tags&mask == mask {
			out = append(out, impl.Near{Id: i.Id, Dist: apart(i.Vec, q)})
		}
	}
	return out
}

func firstNears(l []impl.Near, k int64) []impl.Near {
	return l[:min(int64(len(l)), k)]
}

func (d *dice) mask() int64 {
	return []int64{0, 0, 1, 2, 3, 128, 255, d.upTo(256), 256, -1}[d.upTo(10)]
}

func wrongKs() []int64 {
	return []int64{-1 << 63, -1, 0, impl.MaxK + 1, 1 << 32, 1<<32 + 1, 1<<63 - 1}
}

// tryQueries hands on lists of all lengths that are named, with vectors that
// are far from them, near to them, and among them.
func tryQueries(seed uint64, try func(d *dice, dim int, l []impl.Item, q []int64)) {
	d := &dice{seed}
	for dim := 1; dim <= impl.MaxDim; dim++ {
		for _, count := range []int{0, 1, 2, 3, 10, impl.MaxK - 1, impl.MaxK, impl.MaxK + 1, impl.MaxItems} {
			for _, l := range [][]impl.Item{d.items(count, dim), d.closeItems(count, dim)} {
				try(d, dim, l, d.vector(dim))
				try(d, dim, l, make([]int64, dim))
				if count > 0 {
					try(d, dim, l, l[d.upTo(int64(count))].Vec)
				}
			}
		}
	}
}

// wrongQueries hands on all that makes a query of dim, of items that are not
// so or of a vector that is none of dim numbers.
func wrongQueries(try func(dim int64, l []impl.Item, q []int64)) {
	for dim := 1; dim <= impl.MaxDim; dim++ {
		right, q := plainItems(3, dim, 10), make([]int64, dim)
		for _, l := range wrongLists(dim) {
			try(int64(dim), l, q)
		}
		for _, wrong := range wrongDims() {
			try(wrong, right, q)
			try(wrong, nil, q)
		}
		for _, v := range wrongVectors() {
			try(int64(dim), right, v)
			try(int64(dim), nil, v)
		}
		for size := 1; size <= impl.MaxDim; size++ {
			if size != dim {
				try(int64(dim), right, make([]int64, size))
				try(int64(dim), nil, make([]int64, size))
				try(int64(size), right, q)
				try(int64(size), right, make([]int64, size))
			}
		}
	}
}

func TestPromise8NearestRisesAndNoneIsNearer(t *testing.T) {
	tryQueries(81, func(d *dice, dim int, l []impl.Item, q []int64) {
		for k := int64(1); k <= impl.MaxK; k++ {
			mask := d.mask()
			got := impl.Nearest(int64(dim), l, q, k, mask)
			for at := 1; at < len(got); at++ {
				if compareNears(got[at-1], got[at]) >= 0 {
					t.Fatal("it does not rise", l, q, k, mask, got)
				}
			}
			all := nearsAsTold(l, q, mask)
			if len(got) != min(int(k), len(all)) {
				t.Fatal("too few or too many", l, q, k, mask, got)
			}
			for _, n := range all {
				if !slices.Contains(got, n) && compareNears(n, got[len(got)-1]) < 0 {
					t.Fatal("one is nearer", l, q, k, mask, got, n)
				}
			}
			if want := firstNears(sortedNears(all), k); !slices.Equal(got, want) {
				t.Fatal(l, q, k, mask, got, want)
			}
		}
	})
}

func TestNearestOfEquallyFar(t *testing.T) {
	l := []impl.Item{}
	for id := int64(1); id <= impl.MaxItems; id++ {
		v := []int64{3, 4}
		v[id%2] *= id%3 - 1
		l = append(l, impl.Item{Id: 9940 + id - 1, Tags: id % 4, Vec: v})
	}
	for k := int64(1); k <= impl.MaxK; k++ {
		for _, mask := range []int64{0, 1, 2, 3} {
			got := impl.Nearest(2, l, []int64{0, 0}, k, mask)
			want := firstNears(sortedNears(nearsAsTold(l, []int64{0, 0}, mask)), k)
			if !slices.Equal(got, want) {
				t.Error(k, mask, got, want)
			}
		}
	}
	same := []impl.Item{{Id: 1, Vec: []int64{5}}, {Id: 2, Vec: []int64{-5}}, {Id: 3, Vec: []int64{5}}, {Id: 9999, Vec: []int64{-5}}}
	want := []impl.Near{{Id: 1, Dist: 25}, {Id: 2, Dist: 25}, {Id: 3, Dist: 25}, {Id: 9999, Dist: 25}}
	for k := int64(1); k <= impl.MaxK; k++ {
		if got := impl.Nearest(1, same, []int64{0}, k, 0); !slices.Equal(got, firstNears(want, k)) {
			t.Error("the less id first", k, got)
		}
	}
}

func TestNearestEdges(t *testing.T) {
	far, end := slices.Repeat([]int64{-impl.MaxComp}, impl.MaxDim), slices.Repeat([]int64{impl.MaxComp}, impl.MaxDim)
	l := []impl.Item{{Id: 1, Tags: 255, Vec: far}, {Id: 9999, Vec: end}}
	got := impl.Nearest(impl.MaxDim, l, end, impl.MaxK, 0)
	if !slices.Equal(got, []impl.Near{{Id: 9999, Dist: 0}, {Id: 1, Dist: 1 << 45}}) {
		t.Error("as far as can be", got)
	}
	if got := impl.Nearest(impl.MaxDim, l, end, 1, 255); !slices.Equal(got, []impl.Near{{Id: 1, Dist: 1 << 45}}) {
		t.Error("the one that matches", got)
	}
	for _, mask := range []int64{256, 1 << 40, -1, -1 << 63} {
		if got := impl.Nearest(impl.MaxDim, l, end, 1, mask); len(got) != 0 {
			t.Error("bits that no item has", mask, got)
		}
	}
	for dim := 1; dim <= impl.MaxDim; dim++ {
		if got := impl.Nearest(int64(dim), nil, make([]int64, dim), 1, 0); len(got) != 0 {
			t.Error("of no item", dim, got)
		}
	}
}

func TestNearestAndKthOfWrong(t *testing.T) {
	none := func(dim int64, l []impl.Item, q []int64, k int64) {
		t.Helper()
		if got := impl.Nearest(dim, l, q, k, 0); len(got) != 0 {
			t.Error(dim, l, q, k, got)
		}
		if got := impl.KthOf(dim, l, q, k, 0); got != -1 {
			t.Error(dim, l, q, k, got)
		}
	}
	wrongQueries(func(dim int64, l []impl.Item, q []int64) {
		none(dim, l, q, 1)
		none(dim, l, q, impl.MaxK)
		none(dim, l, q, 0)
	})
	for _, k := range wrongKs() {
		for _, count := range []int{0, 1, impl.MaxItems} {
			none(2, plainItems(count, 2, 3), []int64{1, 1}, k)
		}
	}
}

func TestInRadius(t *testing.T) {
	tryQueries(82, func(d *dice, dim int, l []impl.Item, q []int64) {
		mask := d.mask()
		all := nearsAsTold(l, q, mask)
		radii := []int64{-1 << 63, -1, 0, 1, d.upTo(1 << 31), impl.MaxDist, 1<<63 - 1}
		for _, n := range all {
			radii = append(radii, n.Dist-1, n.Dist, n.Dist+1)
		}
		for _, r := range radii {
			want := slices.DeleteFunc(slices.Clone(all), func(n impl.Near) bool { return n.Dist > r })
			if got := impl.InRadius(int64(dim), l, q, r, mask); !slices.Equal(got, want) {
				t.Fatal(l, q, r, mask, got, want)
			}
		}
	})
}

func TestInRadiusEdges(t *testing.T) {
	l := []impl.Item{{Id: 2, Tags: 1, Vec: []int64{3, 4}}, {Id: 5, Vec: []int64{0, 0}}, {Id: 7, Tags: 1, Vec: []int64{0, 5}}, {Id: 9, Tags: 3, Vec: []int64{0, 0}}}
	near := func(r int64, mask int64, want ...impl.Near) {
		t.Helper()
		if got := impl.InRadius(2, l, []int64{0, 0}, r, mask); !slices.Equal(got, want) {
			t.Error(r, mask, got, want)
		}
	}
	near(-1, 0)
	near(-1<<63, 0)
	near(0, 0, impl.Near{Id: 5}, impl.Near{Id: 9})
	near(24, 0, impl.Near{Id: 5}, impl.Near{Id: 9})
	near(25, 0, impl.Near{Id: 2, Dist: 25}, impl.Near{Id: 5}, impl.Near{Id: 7, Dist: 25}, impl.Near{Id: 9})
	near(25, 1, impl.Near{Id: 2, Dist: 25}, impl.Near{Id: 7, Dist: 25}, impl.Near{Id: 9})
	near(0, 1, impl.Near{Id: 9})
	near(1<<63-1, 4)
	near(1<<63-1, 256)
	for _, count := range []int{0, 1, impl.MaxItems} {
		if got := impl.InRadius(1, plainItems(count, 1, 1), []int64{0}, impl.MaxDist, 0); len(got) != count {
			t.Error("all of them, however many", count, got)
		}
	}
}

func TestInRadiusWrong(t *testing.T) {
	wrongQueries(func(dim int64, l []impl.Item, q []int64) {
		for _, r := range []int64{-1, 0, impl.MaxDist, 1<<63 - 1} {
			if got := impl.InRadius(dim, l, q, r, 0); len(got) != 0 {
				t.Error(dim, l, q, r, got)
			}
		}
	})
}

func TestKthOf(t *testing.T) {
	tryQueries(83, func(d *dice, dim int, l []impl.Item, q []int64) {
		for k := int64(1); k <= impl.MaxK; k++ {
			mask := d.mask()
			want := int64(-1)
			if first := firstNears(sortedNears(nearsAsTold(l, q, mask)), k); len(first) > 0 {
				want = first[len(first)-1].Dist
			}
			if got := impl.KthOf(int64(dim), l, q, k, mask); got != want {
				t.Fatal(l, q, k, mask, got, want)
			}
		}
	})
}

// parts are two of items, some by some, that are all together.
func (d *dice) parts(l []impl.Item) [][2][]impl.Item {
	out := [][2][]impl.Item{{l, nil}, {nil, l}, {l[:len(l)/2], l[len(l)/2:]}, {l[len(l)/2:], l[:len(l)/2]}}
	var strewn [2][]impl.Item
	for _, i := range l {
		side := d.upTo(2)
		strewn[side] = append(strewn[side], i)
	}
	return append(out, strewn)
}

func TestPromise8MergedOfTwoPartsIsNearestOfAll(t *testing.T) {
	tryQueries(84, func(d *dice, dim int, l []impl.Item, q []int64) {
		for _, k := range []int64{1, 2, 1 + d.upTo(impl.MaxK), impl.MaxK} {
			mask := d.mask()
			want := impl.Nearest(int64(dim), l, q, k, mask)
			for _, p := range d.parts(l) {
				a := impl.Nearest(int64(dim), p[0], q, k, mask)
				b := impl.Nearest(int64(dim), p[1], q, k, mask)
				if got := impl.Merged(a, b, k); !slices.Equal(got, want) {
					t.Fatal(p, q, k, mask, got, want)
				}
			}
		}
	})
}

// nearsOfIds have these ids and few distances, in no order.
func (d *dice) nearsOfIds(from int64, count int64) []impl.Near {
	l := []impl.Near{}
	for id := from; id < from+count; id++ {
		l = append(l, impl.Near{Id: id, Dist: []int64{0, 1, 5, impl.MaxDist}[d.upTo(4)]})
	}
	for at := range l {
		other := d.upTo(count)
		l[at], l[other] = l[other], l[at]
	}
	return l
}

func TestMergedOfAllLengths(t *testing.T) {
	d := dice{85}
	for m := int64(0); m <= impl.MaxK; m++ {
		for n := int64(0); n <= impl.MaxK; n++ {
			a, b := d.nearsOfIds(9999-m+1, m), d.nearsOfIds(1, n)
			want := sortedNears(slices.Concat(a, b))
			for k := int64(1); k <= impl.MaxK; k++ {
				if got := impl.Merged(a, b, k); !slices.Equal(got, firstNears(want, k)) {
					t.Fatal(a, b, k, got, want)
				}
				if got := impl.Merged(b, a, k); !slices.Equal(got, firstNears(want, k)) {
					t.Fatal("the other way round", a, b, k, got, want)
				}
			}
		}
	}
}

func TestMergedWrong(t *testing.T) {
	d := dice{86}
	none := func(a []impl.Near, b []impl.Near, k int64) {
		t.Helper()
		if got := impl.Merged(a, b, k); len(got) != 0 {
			t.Error(a, b, k, got)
		}
		if got := impl.Merged(b, a, k); len(got) != 0 {
			t.Error("the other way round", a, b, k, got)
		}
	}
	few, full := d.nearsOfIds(100, 3), d.nearsOfIds(200, impl.MaxK)
	for _, k := range wrongKs() {
		none(few, full, k)
		none(few, nil, k)
		none(nil, nil, k)
	}
	for _, count := range []int64{impl.MaxK + 1, 2 * impl.MaxK, 1000} {
		for _, k := range []int64{1, impl.MaxK} {
			none(d.nearsOfIds(300, count), nil, k)
			none(d.nearsOfIds(300, count), few, k)
			none(d.nearsOfIds(300, count), full, k)
		}
	}
	for _, w := range wrongNears() {
		for _, other := range [][]impl.Near{nil, few, full} {
			for _, k := range []int64{1, impl.MaxK} {
				none([]impl.Near{w}, other, k)
				none([]impl.Near{{Id: 7}, w}, other, k)
				none([]impl.Near{w, {Id: 7}}, other, k)
				none(append(d.nearsOfIds(300, impl.MaxK-1), w), other, k)
			}
		}
	}
}

// Two of one Id are refused wherever they are, equally far or not, among the
// k least or not.
func TestMergedOfOneIdTwice(t *testing.T) {
	d := dice{87}
	for _, m := range []int64{1, 2, 5, impl.MaxK} {
		for _, n := range []int64{1, 2, 5, impl.MaxK} {
			for at := range m + n {
				for twin := range at {
					all := append(d.nearsOfIds(1, m), d.nearsOfIds(5000, n)...)
					for _, dist := range []int64{all[twin].Dist, 3, impl.MaxDist} {
						all[at] = impl.Near{Id: all[twin].Id, Dist: dist}
						for _, k := range []int64{1, impl.MaxK} {
							if got := impl.Merged(all[:m], all[m:], k); len(got) != 0 {
								t.Fatal(all[:m], all[m:], k, got)
							}
						}
					}
				}
			}
		}
	}
}

func TestRankOf(t *testing.T) {
	tryQueries(88, func(d *dice, dim int, l []impl.Item, q []int64) {
		for rank, n := range sortedNears(nearsAsTold(l, q, 0)) {
			if got := impl.RankOf(int64(dim), l, q, n.Id); got != int64(rank) {
				t.Fatal(l, q, n, got, rank)
			}
		}
		for _, id := range append(wrongIds(), 1, 2, 5000, 9998, 9999) {
			if got := impl.RankOf(int64(dim), l, q, id); (got == -1) == hasId(l, id) {
				t.Fatal("there is no such item", l, q, id, got)
			}
		}
	})
}

func TestRankOfWrong(t *testing.T) {
	wrongQueries(func(dim int64, l []impl.Item, q []int64) {
		ids := []int64{0, 1, 10, 20, 30}
		for _, i := range l {
			ids = append(ids, i.Id)
		}
		for _, id := range ids {
			if got := impl.RankOf(dim, l, q, id); got != -1 {
				t.Error(dim, l, q, id, got)
			}
		}
	})
}

func TestPromise15QueriesLeaveArgumentsAlone(t *testing.T) {
	first := []impl.Item{{Id: 10, Tags: 3, Vec: []int64{1, 2}}, {Id: 20, Tags: 1, Vec: []int64{0, 0}}, {Id: 30, Tags: 3, Vec: []int64{2, 1}}}
	marked := []impl.Near{{Id: 4, Dist: 9}, {Id: 1, Dist: 3}, {Id: 77, Dist: 77}, {Id: 2, Dist: 3}, {Id: 78, Dist: 78}}
	v := []int64{0, 0}
	l, q, nears := roomyItems(first), roomy(v), slices.Clone(marked)
	one, other := nears[:2], nears[3:4]
	answers := func() [][]impl.Near {
		numbers := impl.Near{Id: impl.KthOf(2, l, q, 2, 1), Dist: impl.RankOf(2, l, q, 10)}
		return [][]impl.Near{
			impl.Nearest(2, l, q, 2, 0),
			impl.InRadius(2, l, q, 5, 2),
			impl.Merged(one, other, 2),
			impl.Merged(other, one, 2),
			impl.Merged(one, nil, 5),
			impl.Merged(nil, one, 1),
			{numbers},
		}
	}
	kept := [][]impl.Near{}
	for _, answer := range answers() {
		kept = append(kept, slices.Clone(answer))
		for at := range answer[:cap(answer)] {
			answer[:cap(answer)][at] = impl.Near{Id: -99, Dist: -99}
		}
	}
	if !untouchedItems(l, first) || !untouched(q, v) || !slices.Equal(nears, marked) {
		t.Error("an argument is changed", l, q, nears)
	}
	if again := answers(); !slices.EqualFunc(again, kept, slices.Equal) {
		t.Error("another answer the second time", kept, again)
	}
}
