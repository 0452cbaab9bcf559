package tests

import (
	"slices"
	"testing"

	"loop.example/g00707/impl"
)

// near has few ids and few distances, so that many are equally far, and some
// are the same.
func (d *dice) near() impl.Near {
	ids := []int64{1, 2, 3, 9998, 9999}
	dists := []int64{0, 1, 2, 7, impl.MaxDist - 1, impl.MaxDist}
	return impl.Near{Id: ids[d.upTo(5)], Dist: dists[d.upTo(6)]}
}

func (d *dice) nears(count int) []impl.Near {
	l := make([]impl.Near, count)
	for i := range l {
		l[i] = d.near()
	}
	return l
}

func edgeNears() []impl.Near {
	l := []impl.Near{}
	for _, id := range []int64{1, 2, 9998, 9999} {
		for _, dist := range []int64{0, 1, impl.MaxDist - 1, impl.MaxDist} {
			l = append(l, impl.Near{Id: id, Dist: dist})
		}
	}
	return l
}

func wrongNears() []impl.Near {
	const top, low = 1<<63 - 1, -1 << 63
	l := []impl.Near{}
	for _, id := range []int64{low, -9999, -1, 0, 10000, top} {
		l = append(l, impl.Near{Id: id, Dist: 0}, impl.Near{Id: id, Dist: 5}, impl.Near{Id: id, Dist: impl.MaxDist})
	}
	for _, dist := range []int64{low, -impl.MaxDist, -1, impl.MaxDist + 1, top} {
		l = append(l, impl.Near{Id: 1, Dist: dist}, impl.Near{Id: 9999, Dist: dist}, impl.Near{Id: 0, Dist: dist})
	}
	return l
}

// compareNears is of right Nears alone.
func compareNears(a impl.Near, b impl.Near) int {
	switch {
	case a.Dist < b.Dist, a.Dist == b.Dist && a.Id < b.Id:
		return -1
	case a == b:
		return 0
	}
	return 1
}

func sortedNears(l []impl.Near) []impl.Near {
	l = slices.Clone(l)
	slices.SortFunc(l, compareNears)
	return l
}

// putAsTold does what the document's words say, a step at a time.
func putAsTold(k int64, list []impl.Near, n impl.Near) []impl.Near {
	l := append(slices.Clone(list), n)
	for at := len(l) - 1; at > 0 && compareNears(l[(at-1)/2], l[at]) < 0; at = (at - 1) / 2 {
		l[at], l[(at-1)/2] = l[(at-1)/2], l[at]
	}
	if int64(len(l)) <= k {
		return l
	}
	l[0] = l[len(l)-1]
	l = l[:len(l)-1]
	for at := 0; ; {
		great := at
		for _, below := range []int{2*at + 1, 2*at + 2} {
			if below < len(l) && compareNears(l[below], l[great]) > 0 {
				great = below
			}
		}
		if great == at {
			return l
		}
		l[at], l[great] = l[great], l[at]
		at = great
	}
}

// heapOf puts one behind the other, and holds each step against the words.
func heapOf(t *testing.T, k int64, l []impl.Near) impl.Heap {
	t.Helper()
	h := impl.Heap{K: k}
	for _, n := range l {
		next, ok := impl.HeapPut(h, n)
		if !ok || next.K != k || !impl.HeapOk(next) {
			t.Fatal("no heap", h, n, next, ok)
		}
		if want := putAsTold(k, h.List, n); !slices.Equal(next.List, want) {
			t.Fatal("not as told", h, n, next, want)
		}
		h = next
	}
	return h
}

func wrongHeaps() []impl.Heap {
	const top, low = 1<<63 - 1, -1 << 63
	n := impl.Near{Id: 4, Dist: 4}
	l := []impl.Heap{{}}
	for _, k := range []int64{low, -1, 0, impl.MaxK + 1, 1 << 32, 1<<32 + 1, top} {
		l = append(l, impl.Heap{K: k}, impl.Heap{K: k, List: []impl.Near{n}})
	}
	for k := int64(1); k <= impl.MaxK; k++ {
		l = append(l, impl.Heap{K: k, List: slices.Repeat([]impl.Near{n}, int(k)+1)})
	}
	l = append(l, impl.Heap{K: impl.MaxK, List: slices.Repeat([]impl.Near{n}, 1000)})
	for _, w := range wrongNears() {
		l = append(l, impl.Heap{K: 1, List: []impl.Near{w}}, impl.Heap{K: impl.MaxK, List: []impl.Near{w, w}})
		l = append(l, impl.Heap{K: 3, List: []impl.Near{{Id: 9999, Dist: impl.MaxDist}, n, w}}, impl.Heap{K: 3, List: []impl.Near{w, n, n}})
	}
	return append(l, disordered()...)
}

// disordered has at each place but the first one a Near that the one above it
// is less than: by its distance, or at one distance by its id.
func disordered() []impl.Heap {
	l := []impl.Heap{}
	for size := 2; size <= impl.MaxK; size++ {
		for at := 1; at < size; at++ {
			for _, n := range []impl.Near{{Id: 4, Dist: 5}, {Id: 5, Dist: 4}} {
				list := slices.Repeat([]impl.Near{{Id: 4, Dist: 4}}, size)
				list[at] = n
				l = append(l, impl.Heap{K: int64(size), List: list}, impl.Heap{K: impl.MaxK, List: list})
			}
		}
	}
	return l
}

func TestNearOk(t *testing.T) {
	for _, n := range edgeNears() {
		if !impl.NearOk(n) {
			t.Error("a Near is refused", n)
		}
	}
	for _, n := range wrongNears() {
		if impl.NearOk(n) {
			t.Error("none is taken", n)
		}
	}
}

func TestNearLess(t *testing.T) {
	d := dice{61}
	l := append(edgeNears(), d.nears(20)...)
	for _, a := range l {
		for _, b := range l {
			if impl.NearLess(a, b) != (compareNears(a, b) < 0) {
				t.Error(a, b)
			}
		}
		for _, w := range wrongNears() {
			if impl.NearLess(a, w) || impl.NearLess(w, a) {
				t.Error("one is none", a, w)
			}
		}
	}
	for _, v := range wrongNears() {
		for _, w := range wrongNears() {
			if impl.NearLess(v, w) {
				t.Error("both are none", v, w)
			}
		}
	}
}

func TestHeapOk(t *testing.T) {
	n := impl.Near{Id: 4, Dist: 4}
	for k := int64(1); k <= impl.MaxK; k++ {
		for size := 0; size <= int(k); size++ {
			if !impl.HeapOk(impl.Heap{K: k, List: slices.Repeat([]impl.Near{n}, size)}) {
				t.Error("a heap is refused", k, size)
			}
		}
	}
	for _, h := range wrongHeaps() {
		if impl.HeapOk(h) {
			t.Error("none is taken", h)
		}
	}
}

// Of all short lists of a few Nears just those are heaps where no one is less
// than one below it.
func TestHeapOkOfAllShortLists(t *testing.T) {
	some := []impl.Near{{Id: 1, Dist: 0}, {Id: 2, Dist: 0}, {Id: 1, Dist: 1}}
	var try func(l []impl.Near)
	try = func(l []impl.Near) {
		want := len(l) <= 6
		for at := range l {
			for _, below := range []int{2*at + 1, 2*at + 2} {
				want = want && (below >= len(l) || compareNears(l[at], l[below]) >= 0)
			}
		}
		if impl.HeapOk(impl.Heap{K: 6, List: l}) != want {
			t.Fatal(l, want)
		}
		for _, n := range some {
			if len(l) < 7 {
				try(append(slices.Clone(l), n))
			}
		}
	}
	try(nil)
}

func TestPromise6KeepsTheKLeast(t *testing.T) {
	d := dice{62}
	for k := int64(1); k <= impl.MaxK; k++ {
		for n := 0; n < 30; n++ {
			l := d.nears(int(d.upTo(3 * impl.MaxK)))
			h := heapOf(t, k, l)
			want := sortedNears(l)
			want = want[:min(len(want), int(k))]
			if got := sortedNears(h.List); !slices.Equal(got, want) {
				t.Fatal("not the least", k, l, h, want)
			}
			if got := impl.HeapSorted(h); !slices.Equal(got, want) {
				t.Fatal("not in order", k, l, got, want)
			}
		}
	}
}

func TestPromise6OfOrdersOfComing(t *testing.T) {
	rising := []impl.Near{}
	for id := int64(1); id <= 2*impl.MaxK; id++ {
		rising = append(rising, impl.Near{Id: id, Dist: id / 3})
	}
	falling := slices.Clone(rising)
	slices.Reverse(falling)
	for k := int64(1); k <= impl.MaxK; k++ {
		for _, l := range [][]impl.Near{rising, falling} {
			if got := impl.HeapSorted(heapOf(t, k, l)); !slices.Equal(got, rising[:k]) {
				t.Error(k, l, got)
			}
		}
	}
}

// Every heap that few Nears make is put to, whether or not a row of puts
// would come to it.
func TestHeapPutToAllShortHeaps(t *testing.T) {
	some := []impl.Near{{Id: 1, Dist: 0}, {Id: 2, Dist: 0}, {Id: 1, Dist: 1}, {Id: 3, Dist: 1}}
	heaps := 0
	var try func(l []impl.Near)
	try = func(l []impl.Near) {
		if !impl.HeapOk(impl.Heap{K: impl.MaxK, List: l}) {
			return
		}
		heaps++
		for _, n := range some {
			for _, k := range []int64{int64(len(l)), int64(len(l)) + 1, impl.MaxK} {
				got, ok := impl.HeapPut(impl.Heap{K: k, List: l}, n)
				if k == 0 {
					continue
				}
				if !ok || got.K != k || !slices.Equal(got.List, putAsTold(k, l, n)) {
					t.Fatal(k, l, n, got, ok)
				}
			}
			if len(l) < 7 {
				try(append(slices.Clone(l), n))
			}
		}
	}
	try(nil)
	if heaps < 1000 {
		t.Error("too few heaps", heaps)
	}
}

func TestHeapPutEdges(t *testing.T) {
	one := heapOf(t, 1, []impl.Near{{Id: 9999, Dist: impl.MaxDist}})
	for _, n := range edgeNears() {
		got, ok := impl.HeapPut(one, n)
		if !ok || !slices.Equal(got.List, []impl.Near{n}) {
			t.Error("the less one stays", n, got)
		}
		back, ok := impl.HeapPut(got, one.List[0])
		if !ok || !slices.Equal(back.List, []impl.Near{n}) {
			t.Error("the greatest one goes at once", n, back)
		}
		first, ok := impl.HeapPut(impl.Heap{K: impl.MaxK}, n)
		if !ok || first.K != impl.MaxK || !slices.Equal(first.List, []impl.Near{n}) {
			t.Error("the first one", n, first)
		}
	}
}

func TestHeapPutWrong(t *testing.T) {
	none := func(h impl.Heap, n impl.Near) {
		if got, ok := impl.HeapPut(h, n); ok || got.K != 0 || len(got.List) != 0 {
			t.Error(h, n, got, ok)
		}
	}
	for _, h := range wrongHeaps() {
		none(h, impl.Near{Id: 1, Dist: 1})
		none(h, impl.Near{})
	}
	full := slices.Repeat([]impl.Near{{Id: 4, Dist: 4}}, impl.MaxK)
	for _, n := range wrongNears() {
		none(impl.Heap{K: 1}, n)
		none(impl.Heap{K: impl.MaxK, List: full[:3]}, n)
		none(impl.Heap{K: impl.MaxK, List: full}, n)
	}
}

func TestHeapTop(t *testing.T) {
	d := dice{63}
	for k := int64(1); k <= impl.MaxK; k++ {
		if n, ok := impl.HeapTop(impl.Heap{K: k}); ok || n != (impl.Near{}) {
			t.Error("of none", k, n)
		}
		for size := 1; size <= int(k); size++ {
			h := heapOf(t, k, d.nears(size))
			if n, ok := impl.HeapTop(h); !ok || n != slices.MaxFunc(h.List, compareNears) {
				t.Error(h, n, ok)
			}
		}
	}
	for _, h := range wrongHeaps() {
		if n, ok := impl.HeapTop(h); ok || n != (impl.Near{}) {
			t.Error("of no heap", h, n)
		}
	}
}

func TestHeapSorted(t *testing.T) {
	d := dice{64}
	for k := int64(1); k <= impl.MaxK; k++ {
		for size := 0; size <= int(k); size++ {
			h := heapOf(t, k, d.nears(size))
			if got := impl.HeapSorted(h); len(got) != size || !slices.Equal(got, sortedNears(h.List)) {
				t.Error(h, got)
			}
		}
	}
	for _, h := range wrongHeaps() {
		if got := impl.HeapSorted(h); len(got) != 0 {
			t.Error("of no heap", h, got)
		}
	}
}

func TestPromise15HeapsLeaveArgumentsAlone(t *testing.T) {
	first := []impl.Near{{Id: 9, Dist: 9}, {Id: 5, Dist: 5}, {Id: 7, Dist: 7}, {Id: 77, Dist: 77}, {Id: 78, Dist: 78}}
	for _, k := range []int64{3, 4} {
		for _, n := range []impl.Near{{Id: 1, Dist: 1}, {Id: 8, Dist: 8}, {Id: 99, Dist: 99}} {
			whole := slices.Clone(first)
			h := impl.Heap{K: k, List: whole[:3]}
			answers := func() [][]impl.Near {
				put, _ := impl.HeapPut(h, n)
				top, _ := impl.HeapTop(h)
				return [][]impl.Near{put.List, impl.HeapSorted(h), {top}}
			}
			once := answers()
			kept := [][]impl.Near{}
			for _, l := range once {
				kept = append(kept, slices.Clone(l))
				for i := range l[:cap(l)] {
					l[:cap(l)][i] = impl.Near{Id: -99, Dist: -99}
				}
			}
			if !slices.Equal(whole, first) {
				t.Error("an argument is changed", whole)
			}
			if again := answers(); !slices.EqualFunc(again, kept, slices.Equal) {
				t.Error("another answer the second time", kept, again)
			}
		}
	}
}
