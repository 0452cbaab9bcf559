package tests

import (
	"cmp"
	"slices"
	"testing"

	"loop.example/g00707/impl"
)

// shelf is two books, items, and which of these are Fresh.
type shelf struct {
	old, fresh []impl.Range
	items      []impl.Item
	flags      []bool
}

func (s shelf) dim() int64 { return int64(len(s.old)) }

func (s shelf) bookOf(is bool) []impl.Range {
	if is {
		return s.fresh
	}
	return s.old
}

// entries are put together by hand, from the items and RowOf.
func (s shelf) entries() []impl.Entry {
	l := []impl.Entry{}
	for at, i := range s.items {
		row, _ := impl.RowOf(s.bookOf(s.flags[at]), i.Vec)
		l = append(l, impl.Entry{Item: i, Row: row, Fresh: s.flags[at]})
	}
	return l
}

func (s shelf) cascade(q []int64, k int64, mask int64, budget int64) impl.Found {
	return impl.Cascade(s.old, s.fresh, s.entries(), q, k, mask, budget)
}

func (s shelf) within(q []int64, r int64, mask int64, budget int64) impl.Found {
	return impl.CascadeRadius(s.old, s.fresh, s.entries(), q, r, mask, budget)
}

func sameEntry(a impl.Entry, b impl.Entry) bool {
	return sameItem(a.Item, b.Item) && sameRow(a.Row, b.Row) && a.Fresh == b.Fresh
}

func sameEntries(a []impl.Entry, b []impl.Entry) bool {
	return slices.EqualFunc(a, b, sameEntry)
}

func cloneEntry(e impl.Entry) impl.Entry {
	return impl.Entry{Item: cloneItems([]impl.Item{e.Item})[0], Row: cloneRow(e.Row), Fresh: e.Fresh}
}

func cloneEntries(l []impl.Entry) []impl.Entry {
	out := []impl.Entry{}
	for _, e := range l {
		out = append(out, cloneEntry(e))
	}
	return out
}

func sameFound(a impl.Found, b impl.Found) bool {
	return slices.Equal(a.Hits, b.Hits) && a.Exact == b.Exact && a.Reads == b.Reads && slices.Equal(a.Left, b.Left)
}

func cloneFound(f impl.Found) impl.Found {
	return impl.Found{Hits: slices.Clone(f.Hits), Exact: f.Exact, Reads: f.Reads, Left: slices.Clone(f.Left)}
}

// looked is an entry as a cascade knows it: its bounds of each tier, its
// distance, and what it is known by now.
type looked struct {
	low, high [4]int64
	dist      int64
	hit       impl.Hit
}

func (s shelf) looked(q []int64, mask int64) []looked {
	l := []looked{}
	for _, e := range s.entries() {
		if e.Item.Tags&mask != mask {
			continue
		}
		one := looked{dist: apart(e.Item.Vec, q)}
		for _, tier := range allTiers {
			box, _ := impl.BoxOf(s.bookOf(e.Fresh), e.Row, tier)
			one.low[tier], one.high[tier] = impl.LowOf(box, q), impl.HighOf(box, q)
		}
		one.hit = impl.Hit{Id: e.Item.Id, Low: one.low[3], High: one.high[3]}
		l = append(l, one)
	}
	return l
}

func byLow(a looked, b looked) int {
	return cmp.Or(cmp.Compare(a.low[3], b.low[3]), cmp.Compare(a.hit.Id, b.hit.Id))
}

func kthOfNumbers(l []int64, k int64) int64 {
	slices.Sort(l)
	return l[min(k, int64(len(l)))-1]
}

// cascadeAsTold and withinAsTold follow the document's words, one by one.
func (s shelf) cascadeAsTold(q []int64, k int64, mask int64, budget int64) impl.Found {
	f := impl.Found{Exact: true}
	left := s.looked(q, mask)
	for _, tier := range allTiers {
		highs, next := []int64{}, []looked{}
		for _, one := range left {
			highs = append(highs, one.high[tier])
		}
		for _, one := range left {
			if one.low[tier] <= kthOfNumbers(highs, k) {
				next = append(next, one)
			}
		}
		left = next
		f.Left = append(f.Left, int64(len(left)))
	}
	slices.SortFunc(left, byLow)
	for at := range left {
		highs := []int64{}
		for _, one := range left {
			highs = append(highs, one.hit.High)
		}
		if left[at].hit.Low > kthOfNumbers(highs, k) {
			break
		}
		if budget == 0 {
			f.Exact = false
			break
		}
		budget--
		f.Reads++
		left[at].hit.Low, left[at].hit.High = left[at].dist, left[at].dist
	}
	slices.SortFunc(left, func(a looked, b looked) int {
		return cmp.Or(cmp.Compare(a.hit.High, b.hit.High), cmp.Compare(a.hit.Id, b.hit.Id))
	})
	for _, one := range left[:min(k, int64(len(left)))] {
		f.Hits = append(f.Hits, one.hit)
	}
	return f
}

func (s shelf) withinAsTold(q []int64, r int64, mask int64, budget int64) impl.Found {
	f := impl.Found{Exact: true, Left: []int64{0, 0, 0}}
	all := s.looked(q, mask)
	for _, one := range all {
		for at, tier := range allTiers {
			if one.low[tier] <= r {
				f.Left[at]++
			}
		}
	}
	slices.SortFunc(all, byLow)
	for at, one := range all {
		if one.hit.Low <= r && one.hit.High > r && budget > 0 {
			all[at].hit.Low, all[at].hit.High = one.dist, one.dist
			budget--
			f.Reads++
		}
	}
	for _, one := range all {
		if one.hit.Low <= r {
			f.Hits = append(f.Hits, one.hit)
			f.Exact = f.Exact && one.hit.High <= r
		}
	}
	slices.SortFunc(f.Hits, func(a impl.Hit, b impl.Hit) int { return cmp.Compare(a.Id, b.Id) })
	return f
}

// bookBy is a book of one of these kinds: of all vectors, so that none has a
// code of -1; of half of them; of one number alone in each range; of every
// number; and of any ranges.
func (d *dice) bookBy(kind int64, dim int, l []impl.Item) []impl.Range {
	vectors := [][]int64{}
	for _, i := range l {
		vectors = append(vectors, i.Vec)
	}
	if ranges, ok := impl.RangesOf(vectors); ok && kind == 0 {
		return ranges
	}
	if ranges, ok := impl.RangesOf(vectors[:len(l)/2]); ok && kind == 1 {
		return ranges
	}
	switch kind {
	case 2:
		book := []impl.Range{}
		for _, x := range d.vector(dim) {
			book = append(book, impl.Range{Lo: x, Hi: x})
		}
		return book
	case 3:
		return slices.Repeat([]impl.Range{anyNumber}, dim)
	}
	return d.book(dim)
}

func (d *dice) flags(kind int64, count int) []bool {
	l := make([]bool, count)
	for at := range l {
		l[at] = kind == 1 || kind == 2 && d.upTo(2) == 1
	}
	return l
}

// strewnItems lie in some few hundred numbers, where cells of all tiers part
// them.
func (d *dice) strewnItems(count int, dim int) []impl.Item {
	l := d.items(count, dim)
	for _, i := range l {
		for place := range i.Vec {
			i.Vec[place] = d.upTo(2000) - 1000
		}
	}
	return l
}

func (d *dice) itemsOfKind(kind int64, count int, dim int) []impl.Item {
	switch kind {
	case 0:
		return d.items(count, dim)
	case 1:
		return d.closeItems(count, dim)
	}
	return d.strewnItems(count, dim)
}

// tryShelves hands on items of all kinds, as many as are named, in books that
// are alike and that are not, none of them Fresh, all and some, with vectors
// that are far from them, near to them, and among them.
func tryShelves(seed uint64, try func(d *dice, s shelf, q []int64)) {
	d := &dice{seed}
	for _, dim := range []int{1, 2, 3, impl.MaxDim} {
		for _, count := range []int{0, 1, 2, impl.MaxK - 1, impl.MaxK + 1, impl.MaxItems} {
			for n := range int64(18) {
				items := d.itemsOfKind(n/6, count, dim)
				s := shelf{old: d.bookBy(n%5, dim, items), items: items, flags: d.flags(n%3, count)}
				s.fresh = s.old
				if n%4 != 0 {
					s.fresh = d.bookBy(d.upTo(5), dim, items)
				}
				q := d.vector(dim)
				if n%2 == 0 {
					q = make([]int64, dim)
				}
				if count > 0 && n%5 == 0 {
					q = items[d.upTo(int64(count))].Vec
				}
				try(d, s, q)
			}
		}
	}
}

func (d *dice) someKs() []int64 {
	return []int64{1, 2 + d.upTo(impl.MaxK-2), impl.MaxK}
}

// budgetsFor are none, some, one less than would do for all that are left, as
// many, and far more.
func (d *dice) budgetsFor(left []int64) []int64 {
	last := left[len(left)-1]
	return []int64{0, 1, d.upTo(last + 1), max(last-1, 0), last, last + 1, 1<<63 - 1}
}

func TestEntryOfIsTheRowInItsBook(t *testing.T) {
	tryShelves(91, func(d *dice, s shelf, q []int64) {
		for _, i := range s.items {
			for _, is := range []bool{false, true} {
				row, _ := impl.RowOf(s.bookOf(is), i.Vec)
				want := impl.Entry{Item: i, Row: row, Fresh: is}
				got, ok := impl.EntryOf(s.old, s.fresh, i, is)
				if !ok || !sameEntry(got, want) {
					t.Fatal(s.old, s.fresh, i, is, got, ok)
				}
				if !impl.EntriesOk(s.old, s.fresh, []impl.Entry{got}) {
					t.Fatal("it is not right", s.old, s.fresh, got)
				}
			}
		}
	})
}

func TestEntryOfEdges(t *testing.T) {
	for _, id := range []int64{1, 9999} {
		for _, tags := range []int64{0, 255} {
			for _, v := range edgeVectors() {
				none := make([]impl.Range, len(v))
				all := slices.Repeat([]impl.Range{anyNumber}, len(v))
				for _, is := range []bool{false, true} {
					e, ok := impl.EntryOf(none, all, impl.Item{Id: id, Tags: tags, Vec: v}, is)
					if !ok || (impl.EscapesOf(all, e.Row) == 0) != (is || slices.Max(v) == 0 && slices.Min(v) == 0) {
						t.Error(id, tags, v, is, e, ok)
					}
				}
			}
		}
	}
	e, ok := impl.EntryOf([]impl.Range{{Lo: 0, Hi: 255}}, []impl.Range{{Lo: 5, Hi: 5}}, impl.Item{Id: 3, Tags: 1, Vec: []int64{17}}, true)
	if !ok || !sameRow(e.Row, rowOfCodes([3]int64{-1, -1, -1})) {
		t.Error("in no range of the new book", e)
	}
	e, ok = impl.EntryOf([]impl.Range{{Lo: 0, Hi: 255}}, []impl.Range{{Lo: 5, Hi: 5}}, impl.Item{Id: 3, Tags: 1, Vec: []int64{17}}, false)
	if !ok || !sameRow(e.Row, rowOfCodes([3]int64{0, 1, 17})) {
		t.Error("in the old book", e)
	}
}

// wrongBookPairs are two of which one is none, or that are not of as many
// ranges.
func wrongBookPairs(dim int) [][2][]impl.Range {
	right := make([]impl.Range, dim)
	l := [][2][]impl.Range{{nil, nil}}
	for _, wrong := range wrongBoxes() {
		l = append(l, [2][]impl.Range{wrong, right}, [2][]impl.Range{right, wrong}, [2][]impl.Range{wrong, wrong})
	}
	for size := 1; size <= impl.MaxDim; size++ {
		if size != dim {
			l = append(l, [2][]impl.Range{make([]impl.Range, size), right}, [2][]impl.Range{right, make([]impl.Range, size)})
		}
	}
	return l
}

func TestEntryOfWrong(t *testing.T) {
	none := func(old []impl.Range, fresh []impl.Range, i impl.Item) {
		t.Helper()
		for _, is := range []bool{false, true} {
			if e, ok := impl.EntryOf(old, fresh, i, is); ok || !sameEntry(e, impl.Entry{}) {
				t.Error(old, fresh, i, is, e, ok)
			}
		}
	}
	for dim := 1; dim <= impl.MaxDim; dim++ {
		for _, p := range wrongBookPairs(dim) {
			for size := 1; size <= impl.MaxDim; size++ {
				none(p[0], p[1], impl.Item{Id: 1, Vec: make([]int64, size)})
			}
		}
		book := make([]impl.Range, dim)
		for _, i := range wrongItems(dim, 7) {
			none(book, book, i)
		}
	}
}

func TestEntriesForIsEntryOfEach(t *testing.T) {
	tryShelves(92, func(d *dice, s shelf, q []int64) {
		got, ok := impl.EntriesFor(s.old, s.fresh, s.items, s.flags)
		if !ok || !sameEntries(got, s.entries()) || !impl.EntriesOk(s.old, s.fresh, got) {
			t.Fatal(s, got, ok)
		}
	})
}

func TestEntriesForWrong(t *testing.T) {
	none := func(old []impl.Range, fresh []impl.Range, l []impl.Item, flags []bool) {
		t.Helper()
		if got, ok := impl.EntriesFor(old, fresh, l, flags); ok || len(got) != 0 {
			t.Error(old, fresh, l, flags, got, ok)
		}
	}
	for dim := 1; dim <= impl.MaxDim; dim++ {
		book := make([]impl.Range, dim)
		for _, l := range wrongLists(dim) {
			none(book, book, l, make([]bool, len(l)))
		}
		for _, count := range []int{0, 1, 2, impl.MaxItems} {
			l := plainItems(count, dim, 3)
			for _, p := range wrongBookPairs(dim) {
				none(p[0], p[1], l, make([]bool, count))
			}
			none(book, book, l, make([]bool, count+1))
			none(book, book, l, make([]bool, 1000))
			if count > 0 {
				none(book, book, l, make([]bool, count-1))
				none(book, book, l, nil)
			}
		}
	}
}

func TestEntriesOkAsTold(t *testing.T) {
	tryShelves(93, func(d *dice, s shelf, q []int64) {
		l := s.entries()
		if !impl.EntriesOk(s.old, s.fresh, l) {
			t.Fatal("right ones are refused", s, l)
		}
		for at, e := range l {
			other, _ := impl.RowOf(s.bookOf(!e.Fresh), e.Item.Vec)
			turned := slices.Clone(l)
			turned[at].Fresh = !e.Fresh
			if impl.EntriesOk(s.old, s.fresh, turned) != sameRow(other, e.Row) {
				t.Fatal("its row in the other book", s, turned, at)
			}
			turned[at].Row = other
			if !impl.EntriesOk(s.old, s.fresh, turned) {
				t.Fatal("right in the other book", s, turned, at)
			}
			turned[at] = e
			turned[at].Row = l[(at+1)%len(l)].Row
			same, _ := impl.RowOf(s.bookOf(e.Fresh), e.Item.Vec)
			if impl.EntriesOk(s.old, s.fresh, turned) != sameRow(same, turned[at].Row) {
				t.Fatal("the row of another one", s, turned, at)
			}
		}
	})
	for dim := 1; dim <= impl.MaxDim; dim++ {
		if !impl.EntriesOk(make([]impl.Range, dim), slices.Repeat([]impl.Range{anyNumber}, dim), nil) {
			t.Error("none at all", dim)
		}
	}
}

// wrongEntries hands on entries that are not right in these books.
func wrongEntries(try func(old []impl.Range, fresh []impl.Range, l []impl.Entry)) {
	for _, dim := range []int{1, 2, impl.MaxDim} {
		book := slices.Repeat([]impl.Range{{Lo: 0, Hi: 4095}}, dim)
		three := shelf{old: book, fresh: book, items: plainItems(3, dim, 10), flags: []bool{false, true, false}}
		for _, p := range wrongBookPairs(dim) {
			try(p[0], p[1], three.entries())
			try(p[0], p[1], three.entries()[:1])
			try(p[0], p[1], nil)
		}
		for _, l := range wrongLists(dim) {
			try(book, book, shelf{old: book, fresh: book, items: l, flags: make([]bool, len(l))}.entries())
		}
		for at := range 3 {
			for _, row := range wrongRows(book, three.entries()[at].Row) {
				l := three.entries()
				l[at].Row = row
				try(book, book, l)
			}
			for place := range dim {
				l := three.entries()
				l[at].Item.Vec = slices.Clone(l[at].Item.Vec)
				l[at].Item.Vec[place] += 16
				try(book, book, l)
				l[at].Item.Vec[place] = -1
				try(book, book, l)
			}
		}
	}
}

func TestEntriesOkWrong(t *testing.T) {
	wrongEntries(func(old []impl.Range, fresh []impl.Range, l []impl.Entry) {
		if impl.EntriesOk(old, fresh, l) {
			t.Error(old, fresh, l)
		}
	})
}

func TestCandOfKeepsTheDistance(t *testing.T) {
	tryShelves(94, func(d *dice, s shelf, q []int64) {
		for _, e := range s.entries() {
			ahead := impl.Hit{High: impl.MaxDist}
			for _, tier := range allTiers {
				box, _ := impl.BoxOf(s.bookOf(e.Fresh), e.Row, tier)
				want := impl.Hit{Id: e.Item.Id, Low: impl.LowOf(box, q), High: impl.HighOf(box, q)}
				got, ok := impl.CandOf(s.old, s.fresh, e, q, tier)
				if !ok || got != want {
					t.Fatal(s.old, s.fresh, e, q, tier, got, want, ok)
				}
				dist := apart(e.Item.Vec, q)
				if dist < got.Low || dist > got.High || got.Low < ahead.Low || got.High > ahead.High {
					t.Fatal("bounds that are not kept", s.old, s.fresh, e, q, tier, got, dist, ahead)
				}
				ahead = got
			}
		}
	})
}

func TestCandOfEdges(t *testing.T) {
	one, wide := []impl.Range{{Lo: 7, Hi: 7}}, []impl.Range{{Lo: 0, Hi: 4095}}
	for _, w := range []struct {
		x    int64
		is   bool
		tier int64
		want impl.Hit
	}{
		{7, false, 1, impl.Hit{Id: 4, Low: 9, High: 9}},
		{7, false, 3, impl.Hit{Id: 4, Low: 9, High: 9}},
		{8, false, 1, impl.Hit{Id: 4, Low: 0, High: (highest + 10) * (highest + 10)}},
		{8, false, 3, impl.Hit{Id: 4, Low: 0, High: (highest + 10) * (highest + 10)}},
		{8, true, 1, impl.Hit{Id: 4, Low: 0, High: 2037 * 2037}},
		{8, true, 2, impl.Hit{Id: 4, Low: 0, High: 245 * 245}},
		{8, true, 3, impl.Hit{Id: 4, Low: 0, High: 100}},
		{4095, true, 1, impl.Hit{Id: 4, Low: 2038 * 2038, High: 4085 * 4085}},
		{4095, true, 3, impl.Hit{Id: 4, Low: 4070 * 4070, High: 4085 * 4085}},
		{4096, true, 3, impl.Hit{Id: 4, Low: 0, High: (highest + 10) * (highest + 10)}},
	} {
		e, _ := impl.EntryOf(one, wide, impl.Item{Id: 4, Tags: 9, Vec: []int64{w.x}}, w.is)
		if got, ok := impl.CandOf(one, wide, e, []int64{10}, w.tier); !ok || got != w.want {
			t.Error(w, got, ok)
		}
	}
}

func TestCandOfWrong(t *testing.T) {
	none := func(old []impl.Range, fresh []impl.Range, e impl.Entry, q []int64, tier int64) {
		t.Helper()
		if h, ok := impl.CandOf(old, fresh, e, q, tier); ok || h != (impl.Hit{}) {
			t.Error(old, fresh, e, q, tier, h, ok)
		}
	}
	for dim := 1; dim <= impl.MaxDim; dim++ {
		for _, p := range wrongBookPairs(dim) {
			for size := 1; size <= impl.MaxDim; size++ {
				book, v := make([]impl.Range, size), make([]int64, size)
				e, _ := impl.EntryOf(book, book, impl.Item{Id: 5, Vec: v}, size%2 == 0)
				none(p[0], p[1], e, v, 1)
			}
		}
		book := slices.Repeat([]impl.Range{{Lo: 0, Hi: 4095}}, dim)
		for _, tier := range allTiers {
			e, _ := impl.EntryOf(book, book, impl.Item{Id: 5, Vec: make([]int64, dim)}, tier == 2)
			for _, row := range wrongRows(book, e.Row) {
				none(book, book, impl.Entry{Item: e.Item, Row: row, Fresh: e.Fresh}, make([]int64, dim), tier)
			}
			for _, x := range []int64{-1, 16, 4095, 4096} {
				e.Item.Vec[dim-1] = x
				none(book, book, e, make([]int64, dim), tier)
			}
		}
	}
	for dim := 1; dim <= impl.MaxDim; dim++ {
		book := make([]impl.Range, dim)
		for _, is := range []bool{false, true} {
			e, _ := impl.EntryOf(book, book, impl.Item{Id: 5, Vec: make([]int64, dim)}, is)
			for _, tier := range noTiers {
				none(book, book, e, make([]int64, dim), tier)
			}
			for _, q := range wrongQueriesOf(dim) {
				none(book, book, e, q, 1)
				none(book, book, e, q, 3)
			}
			for _, i := range wrongItems(dim, 5) {
				none(book, book, impl.Entry{Item: i, Row: e.Row, Fresh: is}, make([]int64, dim), 2)
			}
			none(book, book, impl.Entry{}, make([]int64, dim), 1)
		}
	}
}

// wrongQueriesOf are no vectors of dim numbers.
func wrongQueriesOf(dim int) [][]int64 {
	l := wrongVectors()
	for size := 1; size <= impl.MaxDim; size++ {
		if size != dim {
			l = append(l, make([]int64, size))
		}
	}
	v := make([]int64, dim)
	v[dim-1] = impl.MaxComp + 1
	return append(l, v)
}

func TestPromise9ExactIsNearestLookedAtAll(t *testing.T) {
	exact, open := 0, 0
	tryShelves(95, func(d *dice, s shelf, q []int64) {
		for _, k := range d.someKs() {
			mask := d.mask()
			want := impl.Nearest(s.dim(), s.items, q, k, mask)
			for _, budget := range []int64{0, 1, 2, d.upTo(impl.MaxItems), impl.MaxItems} {
				f := s.cascade(q, k, mask, budget)
				if !f.Exact {
					open++
					continue
				}
				exact++
				got := []impl.Near{}
				for _, h := range f.Hits {
					if h.Low != h.High {
						t.Fatal("exact, and not to the distance", s, q, k, mask, budget, f)
					}
					got = append(got, impl.Near{Id: h.Id, Dist: h.Low})
				}
				if !slices.Equal(got, want) {
					t.Fatal("exact, and not what is nearest", s, q, k, mask, budget, f, want)
				}
			}
		}
	})
	if exact < 100 || open < 100 {
		t.Error("too few of a kind to tell", exact, open)
	}
}

func TestPromise9WhateverItsBudget(t *testing.T) {
	tryShelves(96, func(d *dice, s shelf, q []int64) {
		for _, k := range d.someKs() {
			mask := d.mask()
			all := nearsAsTold(s.items, q, mask)
			for _, budget := range []int64{0, 1, d.upTo(impl.MaxItems), 1<<63 - 1} {
				f := s.cascade(q, k, mask, budget)
				if len(f.Hits) != min(int(k), len(all)) {
					t.Fatal("not as many as there are", s, q, k, mask, budget, f)
				}
				if f.Reads < 0 || f.Reads > budget || f.Reads > f.Left[2] {
					t.Fatal("more reads than its budget", s, q, k, mask, budget, f)
				}
				for at, h := range f.Hits {
					holdsBounds(t, all, h)
					if at > 0 && !impl.NearLess(highOf(f.Hits[at-1]), highOf(h)) {
						t.Fatal("they do not rise by High, then Id", s, q, k, mask, budget, f)
					}
				}
			}
		}
	})
}

func highOf(h impl.Hit) impl.Near {
	return impl.Near{Id: h.Id, Dist: h.High}
}

// holdsBounds: the hit is of one that matches, whose distance is within.
func holdsBounds(t *testing.T, all []impl.Near, h impl.Hit) {
	t.Helper()
	at := slices.IndexFunc(all, func(n impl.Near) bool { return n.Id == h.Id })
	if at < 0 || all[at].Dist < h.Low || all[at].Dist > h.High {
		t.Fatal("bounds that its distance does not keep", h, all)
	}
}

func TestPromise9BudgetForAllThatAreLeft(t *testing.T) {
	tryShelves(97, func(d *dice, s shelf, q []int64) {
		for _, k := range d.someKs() {
			mask := d.mask()
			left := s.cascade(q, k, mask, 0).Left
			for _, budget := range []int64{left[2], left[2] + 1, 1<<63 - 1} {
				f := s.cascade(q, k, mask, budget)
				if !f.Exact || !slices.Equal(f.Left, left) {
					t.Fatal("not exact", s, q, k, mask, budget, f)
				}
				for _, fewer := range []int64{f.Reads, f.Reads - 1} {
					if g := s.cascade(q, k, mask, fewer); fewer >= 0 && (g.Exact != (fewer == f.Reads) || g.Reads != fewer) {
						t.Fatal("just enough, and one less", s, q, k, mask, fewer, f, g)
					}
				}
			}
		}
	})
}

func TestCascadeGoesAsTold(t *testing.T) {
	tryShelves(98, func(d *dice, s shelf, q []int64) {
		for _, k := range d.someKs() {
			mask := d.mask()
			for _, budget := range d.budgetsFor(s.cascade(q, k, mask, 0).Left) {
				got, want := s.cascade(q, k, mask, budget), s.cascadeAsTold(q, k, mask, budget)
				if !sameFound(got, want) {
					t.Fatal(s, q, k, mask, budget, got, want)
				}
			}
		}
	})
}

// radiiBy are radii that are met just by a Low, a High or a distance, and
// their neighbours.
func (d *dice) radiiBy(l []looked) []int64 {
	radii := []int64{-1 << 63, -1, 0, d.upTo(1 << 31), impl.MaxDist, 1<<63 - 1}
	for range min(len(l), 2) {
		one := l[d.upTo(int64(len(l)))]
		for _, x := range []int64{one.low[1], one.low[2], one.low[3], one.dist, one.high[3]} {
			radii = append(radii, x-1, x, x+1)
		}
	}
	return radii
}

func TestPromise9AllWithinARadiusIsTold(t *testing.T) {
	exact, open := 0, 0
	tryShelves(99, func(d *dice, s shelf, q []int64) {
		mask := d.mask()
		all := nearsAsTold(s.items, q, mask)
		for _, r := range d.radiiBy(s.looked(q, mask)) {
			want := impl.InRadius(s.dim(), s.items, q, r, mask)
			for _, budget := range []int64{0, d.upTo(impl.MaxItems), impl.MaxItems} {
				f := s.within(q, r, mask, budget)
				told := []impl.Near{}
				for _, h := range f.Hits {
					holdsBounds(t, all, h)
					n := all[slices.IndexFunc(all, func(n impl.Near) bool { return n.Id == h.Id })]
					if f.Exact || n.Dist <= r {
						told = append(told, n)
					}
				}
				if !slices.Equal(told, want) {
					t.Fatal("not just what is within", s, q, r, mask, budget, f, want)
				}
				if f.Reads < 0 || f.Reads > budget || budget >= f.Left[2] && !f.Exact {
					t.Fatal("its budget", s, q, r, mask, budget, f)
				}
				if f.Exact {
					exact++
				} else {
					open++
				}
			}
		}
	})
	if exact < 100 || open < 100 {
		t.Error("too few of a kind to tell", exact, open)
	}
}

func TestCascadeRadiusGoesAsTold(t *testing.T) {
	tryShelves(910, func(d *dice, s shelf, q []int64) {
		mask := d.mask()
		for _, r := range d.radiiBy(s.looked(q, mask)) {
			budgets := d.budgetsFor(s.within(q, r, mask, 0).Left)
			for _, budget := range []int64{0, budgets[d.upTo(int64(len(budgets)))]} {
				got, want := s.within(q, r, mask, budget), s.withinAsTold(q, r, mask, budget)
				if !sameFound(got, want) {
					t.Fatal(s, q, r, mask, budget, got, want)
				}
			}
		}
	})
}

// cellsOf16 has a range with cells of 16 numbers in tier 3, and an item in each
// of the first three. Seen from 8 the High of the first cell is 64, and so is
// the Low of the second one.
func cellsOf16(first int64) shelf {
	book := []impl.Range{{Lo: 0, Hi: 4095}}
	items := []impl.Item{{Id: 2, Tags: 2, Vec: []int64{16}}, {Id: 5, Tags: 2, Vec: []int64{first}}, {Id: 9, Tags: 3, Vec: []int64{40}}}
	return shelf{old: book, fresh: book, items: items, flags: []bool{true, false, true}}
}

func TestCascadeAtALowThatIsJustU(t *testing.T) {
	eight := []int64{8}
	for _, w := range []struct {
		first, k, budget int64
		want             impl.Found
	}{
		{0, 1, 0, impl.Found{Hits: []impl.Hit{{Id: 5, Low: 0, High: 64}}, Left: []int64{3, 3, 2}}},
		{0, 1, 1, impl.Found{Hits: []impl.Hit{{Id: 5, Low: 64, High: 64}}, Reads: 1, Left: []int64{3, 3, 2}}},
		{0, 1, 2, impl.Found{Hits: []impl.Hit{{Id: 2, Low: 64, High: 64}}, Exact: true, Reads: 2, Left: []int64{3, 3, 2}}},
		{1, 1, 0, impl.Found{Hits: []impl.Hit{{Id: 5, Low: 0, High: 64}}, Left: []int64{3, 3, 2}}},
		{1, 1, 1, impl.Found{Hits: []impl.Hit{{Id: 5, Low: 49, High: 49}}, Exact: true, Reads: 1, Left: []int64{3, 3, 2}}},
		{1, 1, 9, impl.Found{Hits: []impl.Hit{{Id: 5, Low: 49, High: 49}}, Exact: true, Reads: 1, Left: []int64{3, 3, 2}}},
		{1, 2, 1, impl.Found{Hits: []impl.Hit{{Id: 5, Low: 49, High: 49}, {Id: 2, Low: 64, High: 529}}, Reads: 1, Left: []int64{3, 3, 2}}},
		{1, 2, 2, impl.Found{Hits: []impl.Hit{{Id: 5, Low: 49, High: 49}, {Id: 2, Low: 64, High: 64}}, Exact: true, Reads: 2, Left: []int64{3, 3, 2}}},
		{0, 2, 2, impl.Found{Hits: []impl.Hit{{Id: 2, Low: 64, High: 64}, {Id: 5, Low: 64, High: 64}}, Exact: true, Reads: 2, Left: []int64{3, 3, 2}}},
		{1, 3, 2, impl.Found{Hits: []impl.Hit{{Id: 5, Low: 49, High: 49}, {Id: 2, Low: 64, High: 64}, {Id: 9, Low: 576, High: 1521}}, Reads: 2, Left: []int64{3, 3, 3}}},
		{1, impl.MaxK, 3, impl.Found{Hits: []impl.Hit{{Id: 5, Low: 49, High: 49}, {Id: 2, Low: 64, High: 64}, {Id: 9, Low: 1024, High: 1024}}, Exact: true, Reads: 3, Left: []int64{3, 3, 3}}},
	} {
		if got := cellsOf16(w.first).cascade(eight, w.k, 0, w.budget); !sameFound(got, w.want) {
			t.Error(w, got)
		}
	}
	if got := cellsOf16(1).cascade(eight, 1, 1, 1); !sameFound(got, impl.Found{Hits: []impl.Hit{{Id: 9, Low: 1024, High: 1024}}, Exact: true, Reads: 1, Left: []int64{1, 1, 1}}) {
		t.Error("the one that matches", got)
	}
}

func TestCascadeRadiusAtItsEdges(t *testing.T) {
	eight := []int64{8}
	near, far := impl.Hit{Id: 5, Low: 49, High: 49}, impl.Hit{Id: 2, Low: 64, High: 64}
	nearly, fairly := impl.Hit{Id: 5, Low: 0, High: 64}, impl.Hit{Id: 2, Low: 64, High: 529}
	for _, w := range []struct {
		r, budget int64
		want      impl.Found
	}{
		{-1, 5, impl.Found{Exact: true, Left: []int64{0, 0, 0}}},
		{-1 << 63, 0, impl.Found{Exact: true, Left: []int64{0, 0, 0}}},
		{0, 0, impl.Found{Hits: []impl.Hit{nearly}, Left: []int64{3, 3, 1}}},
		{0, 1, impl.Found{Exact: true, Reads: 1, Left: []int64{3, 3, 1}}},
		{48, 1, impl.Found{Exact: true, Reads: 1, Left: []int64{3, 3, 1}}},
		{49, 1, impl.Found{Hits: []impl.Hit{near}, Exact: true, Reads: 1, Left: []int64{3, 3, 1}}},
		{63, 9, impl.Found{Hits: []impl.Hit{near}, Exact: true, Reads: 1, Left: []int64{3, 3, 1}}},
		{64, 0, impl.Found{Hits: []impl.Hit{fairly, nearly}, Left: []int64{3, 3, 2}}},
		{64, 1, impl.Found{Hits: []impl.Hit{far, nearly}, Exact: true, Reads: 1, Left: []int64{3, 3, 2}}},
		{528, 0, impl.Found{Hits: []impl.Hit{fairly, nearly}, Left: []int64{3, 3, 2}}},
		{529, 0, impl.Found{Hits: []impl.Hit{fairly, nearly}, Exact: true, Left: []int64{3, 3, 2}}},
		{575, 0, impl.Found{Hits: []impl.Hit{fairly, nearly}, Exact: true, Left: []int64{3, 3, 2}}},
		{576, 0, impl.Found{Hits: []impl.Hit{fairly, nearly, {Id: 9, Low: 576, High: 1521}}, Left: []int64{3, 3, 3}}},
		{1023, 1, impl.Found{Hits: []impl.Hit{fairly, nearly}, Exact: true, Reads: 1, Left: []int64{3, 3, 3}}},
		{1024, 1, impl.Found{Hits: []impl.Hit{fairly, nearly, {Id: 9, Low: 1024, High: 1024}}, Exact: true, Reads: 1, Left: []int64{3, 3, 3}}},
		{1521, 9, impl.Found{Hits: []impl.Hit{fairly, nearly, {Id: 9, Low: 576, High: 1521}}, Exact: true, Left: []int64{3, 3, 3}}},
		{1<<63 - 1, 0, impl.Found{Hits: []impl.Hit{fairly, nearly, {Id: 9, Low: 576, High: 1521}}, Exact: true, Left: []int64{3, 3, 3}}},
	} {
		if got := cellsOf16(1).within(eight, w.r, 0, w.budget); !sameFound(got, w.want) {
			t.Error(w, got)
		}
	}
}

// Of equally far ones that are in no range the less ids are read first, and
// told first.
func TestCascadesOfEquallyFar(t *testing.T) {
	book := []impl.Range{{Lo: 100, Hi: 100}, {Lo: 0, Hi: 9}}
	items, flags := []impl.Item{}, []bool{}
	for id := int64(1); id <= impl.MaxItems; id++ {
		items = append(items, impl.Item{Id: 3 * id, Tags: id % 2, Vec: []int64{5 * (id%2*2 - 1), 0}})
		flags = append(flags, id%3 == 0)
	}
	s := shelf{old: book, fresh: book, items: items, flags: flags}
	const far = highest * highest
	for _, k := range []int64{1, 7, impl.MaxK} {
		for _, budget := range []int64{0, 1, k, impl.MaxItems - 1, impl.MaxItems, impl.MaxItems + 1} {
			f := s.cascade([]int64{0, 0}, k, 0, budget)
			want := impl.Found{Exact: budget >= impl.MaxItems, Reads: min(budget, impl.MaxItems), Left: []int64{impl.MaxItems, impl.MaxItems, impl.MaxItems}}
			for id := int64(1); id <= k; id++ {
				h := impl.Hit{Id: 3 * id, Low: 0, High: far}
				if id <= budget {
					h.Low, h.High = 25, 25
				}
				want.Hits = append(want.Hits, h)
			}
			if !sameFound(f, want) {
				t.Error(k, budget, f, want)
			}
		}
	}
	for budget := range int64(impl.MaxItems) {
		f := s.within([]int64{0, 0}, 24, 0, budget)
		if f.Exact || f.Reads != budget || int64(len(f.Hits)) != impl.MaxItems-budget || f.Hits[0] != (impl.Hit{Id: 3 * (budget + 1), Low: 0, High: far}) {
			t.Error("the less ids are read first", budget, f)
		}
	}
	if f := s.within([]int64{0, 0}, 25, 1, impl.MaxItems/2); !f.Exact || len(f.Hits) != impl.MaxItems/2 || f.Hits[0] != (impl.Hit{Id: 3, Low: 25, High: 25}) {
		t.Error("those that match", f)
	}
}

func TestCascadesOfNone(t *testing.T) {
	want := impl.Found{Exact: true, Left: []int64{0, 0, 0}}
	for dim := 1; dim <= impl.MaxDim; dim++ {
		book, q := make([]impl.Range, dim), make([]int64, dim)
		s := shelf{old: book, fresh: book, items: plainItems(impl.MaxItems, dim, 4), flags: make([]bool, impl.MaxItems)}
		for _, budget := range []int64{0, 1, 1<<63 - 1} {
			for _, k := range []int64{1, impl.MaxK} {
				if f := impl.Cascade(book, book, nil, q, k, 0, budget); !sameFound(f, want) {
					t.Error("no entry", dim, k, budget, f)
				}
				for _, mask := range []int64{256, 1 << 40, -1, -1 << 63} {
					if f := s.cascade(q, k, mask, budget); !sameFound(f, want) {
						t.Error("bits that no item has", dim, k, mask, budget, f)
					}
				}
			}
			for _, r := range []int64{-1, 0, impl.MaxDist} {
				if f := impl.CascadeRadius(book, book, nil, q, r, 0, budget); !sameFound(f, want) {
					t.Error("no entry", dim, r, budget, f)
				}
				for _, mask := range []int64{256, 1 << 40, -1, -1 << 63} {
					if f := s.within(q, r, mask, budget); !sameFound(f, want) {
						t.Error("bits that no item has", dim, r, mask, budget, f)
					}
				}
			}
		}
	}
}

func TestCascadesWrong(t *testing.T) {
	none := func(old []impl.Range, fresh []impl.Range, l []impl.Entry, q []int64, k int64, budget int64) {
		t.Helper()
		if f := impl.Cascade(old, fresh, l, q, k, 0, budget); !sameFound(f, impl.Found{}) {
			t.Error(old, fresh, l, q, k, budget, f)
		}
	}
	noneWithin := func(old []impl.Range, fresh []impl.Range, l []impl.Entry, q []int64, budget int64) {
		t.Helper()
		for _, r := range []int64{-1, 0, 100, impl.MaxDist} {
			if f := impl.CascadeRadius(old, fresh, l, q, r, 0, budget); !sameFound(f, impl.Found{}) {
				t.Error(old, fresh, l, q, r, budget, f)
			}
		}
	}
	wrongEntries(func(old []impl.Range, fresh []impl.Range, l []impl.Entry) {
		q := make([]int64, min(max(len(old), 1), impl.MaxDim))
		none(old, fresh, l, q, 1, 5)
		noneWithin(old, fresh, l, q, 5)
	})
	for dim := 1; dim <= impl.MaxDim; dim++ {
		book := make([]impl.Range, dim)
		for _, count := range []int{0, 1, impl.MaxItems} {
			l := shelf{old: book, fresh: book, items: plainItems(count, dim, 2), flags: make([]bool, count)}.entries()
			for _, q := range wrongQueriesOf(dim) {
				none(book, book, l, q, 1, 5)
				noneWithin(book, book, l, q, 5)
			}
			for _, k := range wrongKs() {
				none(book, book, l, make([]int64, dim), k, 5)
			}
			for _, budget := range []int64{-1, -impl.MaxItems, -1 << 63} {
				none(book, book, l, make([]int64, dim), 1, budget)
				noneWithin(book, book, l, make([]int64, dim), budget)
			}
		}
	}
}

// roomyEntries have marks in the spare room behind the list and each list in
// it.
func roomyEntries(l []impl.Entry) []impl.Entry {
	wide := []impl.Entry{}
	for _, e := range l {
		item := impl.Item{Id: e.Item.Id, Tags: e.Item.Tags, Vec: roomy(e.Item.Vec)}
		row := impl.Row{C1: roomy(e.Row.C1), C2: roomy(e.Row.C2), C3: roomy(e.Row.C3)}
		wide = append(wide, impl.Entry{Item: item, Row: row, Fresh: e.Fresh})
	}
	wide = append(wide, impl.Entry{Item: impl.Item{Id: 77}})
	return wide[:len(l):len(wide)]
}

func untouchedEntries(roomed []impl.Entry, l []impl.Entry) bool {
	for at, e := range roomed {
		if !untouched(e.Item.Vec, l[at].Item.Vec) || !untouched(e.Row.C1, l[at].Row.C1) || !untouched(e.Row.C2, l[at].Row.C2) || !untouched(e.Row.C3, l[at].Row.C3) {
			return false
		}
	}
	return sameEntries(roomed[:cap(roomed)], append(slices.Clone(l), impl.Entry{Item: impl.Item{Id: 77}}))
}

// spoilEntries writes over an answer, and tells whether a list of it changed
// with another one.
func spoilEntries(l []impl.Entry) bool {
	kept := cloneEntries(l)
	alone := true
	for at, e := range l {
		was := kept[at]
		for which, list := range [][]int64{e.Item.Vec, e.Row.C1, e.Row.C2, e.Row.C3} {
			alone = alone && slices.Equal(list, [][]int64{was.Item.Vec, was.Row.C1, was.Row.C2, was.Row.C3}[which])
			spoil(list)
		}
	}
	for at := range l[:cap(l)] {
		l[:cap(l)][at] = impl.Entry{Item: impl.Item{Id: -99}}
	}
	return alone
}

func spoilFound(f impl.Found) {
	for at := range f.Hits[:cap(f.Hits)] {
		f.Hits[:cap(f.Hits)][at] = impl.Hit{Id: -99, Low: -99, High: -99}
	}
	spoil(f.Left)
}

func TestPromise15CascadesLeaveArgumentsAlone(t *testing.T) {
	v := []int64{3, 4}
	first := shelf{
		old:   []impl.Range{{Lo: 0, Hi: 999}, {Lo: -50, Hi: 50}},
		fresh: []impl.Range{{Lo: 0, Hi: 0}, {Lo: 0, Hi: 400}},
		items: []impl.Item{{Id: 10, Tags: 3, Vec: []int64{7, 900}}, {Id: 20, Tags: 1, Vec: []int64{0, 40}}, {Id: 30, Tags: 2, Vec: v}, {Id: 40, Tags: 2, Vec: v}, {Id: 50, Tags: 0, Vec: v}},
		flags: []bool{true, false, false, true, false},
	}
	mark := impl.Range{Lo: 7, Hi: 7}
	oldRoom, freshRoom := append(slices.Clone(first.old), mark)[:3:3], append(slices.Clone(first.fresh), mark)[:3:3]
	flagRoom := append(slices.Clone(first.flags), true)[:6:6]
	s := shelf{old: oldRoom[:2], fresh: freshRoom[:2], items: roomyItems(first.items), flags: flagRoom[:5]}
	l, q := roomyEntries(first.entries()), roomy(v)
	answers := func() ([]impl.Entry, []impl.Entry, []impl.Found, []impl.Hit) {
		many, _ := impl.EntriesFor(s.old, s.fresh, s.items, s.flags)
		one, _ := impl.EntryOf(s.old, s.fresh, s.items[2], true)
		hit, _ := impl.CandOf(s.old, s.fresh, l[0], q, 2)
		impl.EntriesOk(s.old, s.fresh, l)
		found := []impl.Found{}
		for _, budget := range []int64{0, 2, 9} {
			found = append(found, impl.Cascade(s.old, s.fresh, l, q, 2, 0, budget), impl.Cascade(s.old, s.fresh, l, q, 9, 2, budget))
			found = append(found, impl.CascadeRadius(s.old, s.fresh, l, q, 1500, 0, budget), impl.CascadeRadius(s.old, s.fresh, l, q, 0, 2, budget))
		}
		return many, []impl.Entry{one}, found, []impl.Hit{hit}
	}
	many, one, found, hit := answers()
	keptMany, keptOne, keptFound := cloneEntries(many), cloneEntries(one), []impl.Found{}
	if len(many) != 5 || !spoilEntries(many) || !spoilEntries(one) {
		t.Error("lists of one answer share memory", many, one)
	}
	for _, f := range found {
		keptFound = append(keptFound, cloneFound(f))
		spoilFound(f)
	}
	if !untouchedItems(s.items, first.items) || !untouchedEntries(l, first.entries()) || !untouched(q, v) {
		t.Error("an argument is changed", s.items, l, q)
	}
	if !slices.Equal(oldRoom, append(first.old, mark)) || !slices.Equal(freshRoom, append(first.fresh, mark)) || !slices.Equal(flagRoom, append(first.flags, true)) {
		t.Error("a book or the flags are changed", oldRoom, freshRoom, flagRoom)
	}
	manyAgain, oneAgain, foundAgain, hitAgain := answers()
	if !sameEntries(manyAgain, keptMany) || !sameEntries(oneAgain, keptOne) || !slices.EqualFunc(foundAgain, keptFound, sameFound) || !slices.Equal(hitAgain, hit) {
		t.Error("another answer the second time", manyAgain, oneAgain, foundAgain, hitAgain)
	}
}

// Where items share one vector, their entries do not.
func TestEntriesOfOneVectorComeApart(t *testing.T) {
	v := []int64{4, 5}
	book := []impl.Range{{Lo: 0, Hi: 9}, {Lo: 5, Hi: 5}}
	l, ok := impl.EntriesFor(book, book, []impl.Item{{Id: 1, Vec: v}, {Id: 2, Vec: v}, {Id: 3, Vec: v}}, []bool{true, false, true})
	if !ok || len(l) != 3 || !spoilEntries(l) {
		t.Error("lists of one answer share memory", l, ok)
	}
	if !slices.Equal(v, []int64{4, 5}) || book[0] != (impl.Range{Lo: 0, Hi: 9}) {
		t.Error("an argument is changed", v, book)
	}
}
