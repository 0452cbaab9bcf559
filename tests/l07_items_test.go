package tests

import (
	"slices"
	"testing"

	"loop.example/g00707/impl"
)

func (d *dice) tags() int64 {
	some := []int64{0, 1, 2, 3, 128, 254, 255}
	if at := d.upTo(10); at < int64(len(some)) {
		return some[at]
	}
	return d.upTo(256)
}

func (d *dice) item(id int64, dim int) impl.Item {
	return impl.Item{Id: id, Tags: d.tags(), Vec: d.vector(dim)}
}

// items rise by Id, and often have the ids 1 and 9999.
func (d *dice) items(count int, dim int) []impl.Item {
	ids := []int64{}
	for len(ids) < count {
		id := []int64{1, 9999, 1 + d.upTo(2*impl.MaxItems), 1 + d.upTo(9999)}[d.upTo(4)]
		if !slices.Contains(ids, id) {
			ids = append(ids, id)
		}
	}
	slices.Sort(ids)
	l := []impl.Item{}
	for _, id := range ids {
		l = append(l, d.item(id, dim))
	}
	return l
}

// plainItems have the ids by, twice by, .. and each its id for numbers.
func plainItems(count int, dim int, by int64) []impl.Item {
	l := []impl.Item{}
	for id := by; len(l) < count; id += by {
		l = append(l, impl.Item{Id: id, Tags: id % 256, Vec: slices.Repeat([]int64{id}, dim)})
	}
	return l
}

func sameItem(a impl.Item, b impl.Item) bool {
	return a.Id == b.Id && a.Tags == b.Tags && slices.Equal(a.Vec, b.Vec)
}

func sameItems(a []impl.Item, b []impl.Item) bool {
	return slices.EqualFunc(a, b, sameItem)
}

func cloneItems(l []impl.Item) []impl.Item {
	out := []impl.Item{}
	for _, i := range l {
		out = append(out, impl.Item{Id: i.Id, Tags: i.Tags, Vec: slices.Clone(i.Vec)})
	}
	return out
}

// without and with look at all items one by one, in whatever order they are.
func without(l []impl.Item, id int64) []impl.Item {
	return slices.DeleteFunc(slices.Clone(l), func(i impl.Item) bool { return i.Id == id })
}

func with(l []impl.Item, i impl.Item) []impl.Item {
	l = append(without(l, i.Id), i)
	slices.SortFunc(l, func(a impl.Item, b impl.Item) int { return int(a.Id - b.Id) })
	return l
}

func hasId(l []impl.Item, id int64) bool {
	return slices.ContainsFunc(l, func(i impl.Item) bool { return i.Id == id })
}

func wrongDims() []int64 {
	return []int64{-1 << 63, -8, -1, 0, impl.MaxDim + 1, 1 << 32, 1<<32 + 1, 1<<63 - 1}
}

func wrongIds() []int64 {
	return []int64{-1 << 63, -9999, -1, 0, 10000, 1<<32 + 1, 1<<63 - 1}
}

// wrongItems are none of dim, each by one thing alone; the id, where it is
// right, is that one.
func wrongItems(dim int, id int64) []impl.Item {
	right := slices.Repeat([]int64{5}, dim)
	l := []impl.Item{{}}
	for _, wrong := range wrongIds() {
		l = append(l, impl.Item{Id: wrong, Vec: right})
	}
	for _, tags := range []int64{-1 << 63, -256, -1, 256, 1 << 32, 1<<63 - 1} {
		l = append(l, impl.Item{Id: id, Tags: tags, Vec: right})
	}
	for _, v := range wrongVectors() {
		l = append(l, impl.Item{Id: id, Vec: v})
	}
	for size := 1; size <= impl.MaxDim; size++ {
		if size != dim {
			l = append(l, impl.Item{Id: id, Vec: make([]int64, size)})
		}
	}
	for place := range dim {
		for _, x := range []int64{-impl.MaxComp - 1, impl.MaxComp + 1} {
			v := slices.Clone(right)
			v[place] = x
			l = append(l, impl.Item{Id: id, Vec: v})
		}
	}
	return l
}

// wrongLists are no items of dim.
func wrongLists(dim int) [][]impl.Item {
	l := [][]impl.Item{plainItems(impl.MaxItems+1, dim, 1), plainItems(1000, dim, 1)}
	three := plainItems(3, dim, 10)
	for _, order := range [][]int{{0, 0}, {1, 0}, {0, 0, 1}, {0, 1, 1}, {0, 1, 0}, {0, 2, 1}, {1, 0, 2}, {2, 1, 0}} {
		bent := []impl.Item{}
		for _, at := range order {
			bent = append(bent, three[at])
		}
		l = append(l, bent)
	}
	other := impl.Item{Id: 20, Tags: 1, Vec: slices.Repeat([]int64{9}, dim)}
	l = append(l, []impl.Item{three[1], other}, []impl.Item{three[0], three[1], other, three[2]})
	for _, size := range []int{1, 2, 3, impl.MaxItems} {
		for place := range size {
			for _, wrong := range wrongItems(dim, 10*int64(place)+10) {
				bent := plainItems(size, dim, 10)
				bent[place] = wrong
				l = append(l, bent)
			}
		}
	}
	return l
}

func TestItemsOk(t *testing.T) {
	d := dice{71}
	for dim := 1; dim <= impl.MaxDim; dim++ {
		for _, count := range []int{0, 1, 2, 3, impl.MaxItems - 1, impl.MaxItems} {
			l := d.items(count, dim)
			if !impl.ItemsOk(int64(dim), l) {
				t.Error("items are refused", dim, l)
			}
			for other := int64(1); other <= impl.MaxDim; other++ {
				if impl.ItemsOk(other, l) != (other == int64(dim) || count == 0) {
					t.Error("of another dim", dim, other, l)
				}
			}
			for _, wrong := range wrongDims() {
				if impl.ItemsOk(wrong, l) {
					t.Error("a dim that is none is taken", wrong, l)
				}
			}
		}
		for _, l := range wrongLists(dim) {
			if impl.ItemsOk(int64(dim), l) {
				t.Error("what is not so is taken", dim, l)
			}
		}
	}
}

func TestItemsOkEdges(t *testing.T) {
	for _, id := range []int64{1, 2, 9998, 9999} {
		for _, tags := range []int64{0, 1, 254, 255} {
			for _, v := range edgeVectors() {
				if !impl.ItemsOk(int64(len(v)), []impl.Item{{Id: id, Tags: tags, Vec: v}}) {
					t.Error("an item is refused", id, tags, v)
				}
			}
		}
	}
	if !impl.ItemsOk(1, []impl.Item{{Id: 1, Vec: []int64{0}}, {Id: 9999, Tags: 255, Vec: []int64{0}}}) {
		t.Error("the first and the last id")
	}
}

// Of all short lists of a few ids just those are items that rise, from 1 to
// 9999.
func TestItemsOkOfAllShortLists(t *testing.T) {
	some := []int64{0, 1, 2, 9998, 9999, 10000}
	var try func(ids []int64)
	try = func(ids []int64) {
		want := true
		l := []impl.Item{}
		for at, id := range ids {
			want = want && 1 <= id && id <= 9999 && (at == 0 || ids[at-1] < id)
			l = append(l, impl.Item{Id: id, Vec: []int64{0, 0}})
		}
		if impl.ItemsOk(2, l) != want {
			t.Fatal(ids, want)
		}
		for _, id := range some {
			if len(ids) < 4 {
				try(append(slices.Clone(ids), id))
			}
		}
	}
	try(nil)
}

// holdsPut puts, and looks for the item and for all others.
func holdsPut(t *testing.T, dim int, l []impl.Item, i impl.Item) {
	t.Helper()
	got, code := impl.ItemPut(int64(dim), l, i)
	if code != impl.ItOk || !impl.ItemsOk(int64(dim), got) {
		t.Fatal("not put", dim, l, i, got, code)
	}
	if want := with(l, i); !sameItems(got, want) {
		t.Fatal("not in its place", l, i, got, want)
	}
	if found, ok := impl.ItemFind(got, i.Id); !ok || !sameItem(found, i) {
		t.Fatal("what was put is not found", l, i, found)
	}
	for _, other := range l {
		found, ok := impl.ItemFind(got, other.Id)
		if other.Id != i.Id && (!ok || !sameItem(found, other)) {
			t.Fatal("another one is not as it was", l, i, other, found)
		}
	}
}

func TestPromise7WhatIsPutIsFound(t *testing.T) {
	d := dice{72}
	for dim := 1; dim <= impl.MaxDim; dim++ {
		for count := 0; count < impl.MaxItems; count++ {
			l := d.items(count, dim)
			for _, id := range []int64{1, 9999, 1 + d.upTo(9999), 1 + d.upTo(2*impl.MaxItems)} {
				holdsPut(t, dim, l, d.item(id, dim))
			}
		}
	}
}

// At each place of lists of each length: ahead of it, in the place of the one
// that is there, and behind all.
func TestPromise7PutAtEachPlace(t *testing.T) {
	d := dice{73}
	for _, dim := range []int{1, 3, impl.MaxDim} {
		for count := 0; count <= impl.MaxItems; count++ {
			l := plainItems(count, dim, 10)
			for place := range count {
				holdsPut(t, dim, l, d.item(10*int64(place)+10, dim))
			}
			if count == impl.MaxItems {
				continue
			}
			for place := 0; place <= count; place++ {
				holdsPut(t, dim, l, d.item(10*int64(place)+9, dim))
				holdsPut(t, dim, l, d.item(10*int64(place)+1, dim))
			}
			holdsPut(t, dim, l, d.item(9999, dim))
		}
	}
}

func TestPromise7PutOneByOne(t *testing.T) {
	d := dice{74}
	for dim := 1; dim <= impl.MaxDim; dim++ {
		l := []impl.Item{}
		for n := 0; n < 200; n++ {
			i := d.item(1+d.upTo(80), dim)
			got, code := impl.ItemPut(int64(dim), l, i)
			if len(l) == impl.MaxItems && !hasId(l, i.Id) {
				if code != impl.ItFull || len(got) != 0 {
					t.Fatal("full", l, i, got, code)
				}
				continue
			}
			if code != impl.ItOk || !sameItems(got, with(l, i)) {
				t.Fatal(l, i, got, code)
			}
			l = got
		}
		if len(l) != impl.MaxItems {
			t.Error("never full", dim, len(l))
		}
	}
}

func TestItemPutEdges(t *testing.T) {
	for _, tags := range []int64{0, 255} {
		for _, id := range []int64{1, 9999} {
			for _, v := range edgeVectors() {
				i := impl.Item{Id: id, Tags: tags, Vec: v}
				holdsPut(t, len(v), nil, i)
				holdsPut(t, len(v), []impl.Item{i}, i)
				holdsPut(t, len(v), plainItems(impl.MaxItems-1, len(v), 100), i)
			}
		}
	}
}

func TestItemPutFull(t *testing.T) {
	for dim := 1; dim <= impl.MaxDim; dim++ {
		full := plainItems(impl.MaxItems, dim, 10)
		v := make([]int64, dim)
		for _, id := range []int64{1, 9, 11, 305, 599, 601, 9999} {
			if got, code := impl.ItemPut(int64(dim), full, impl.Item{Id: id, Vec: v}); code != impl.ItFull || len(got) != 0 {
				t.Error("a new id", dim, id, got, code)
			}
		}
		for _, i := range full {
			holdsPut(t, dim, full, impl.Item{Id: i.Id, Tags: 255, Vec: v})
		}
	}
}

func TestItemPutWrong(t *testing.T) {
	refused := func(dim int64, l []impl.Item, i impl.Item) {
		t.Helper()
		if got, code := impl.ItemPut(dim, l, i); code != impl.ItForm || len(got) != 0 {
			t.Error(dim, l, i, got, code)
		}
	}
	for dim := 1; dim <= impl.MaxDim; dim++ {
		right := impl.Item{Id: 7, Tags: 1, Vec: make([]int64, dim)}
		for _, l := range wrongLists(dim) {
			refused(int64(dim), l, right)
			refused(int64(dim), l, l[0])
		}
		for _, i := range wrongItems(dim, 7) {
			refused(int64(dim), nil, i)
			refused(int64(dim), plainItems(3, dim, 7), i)
			// The form is asked ahead of whether there is room.
			refused(int64(dim), plainItems(impl.MaxItems, dim, 10), i)
		}
		for _, wrong := range wrongDims() {
			refused(wrong, nil, right)
			refused(wrong, plainItems(3, dim, 7), right)
		}
	}
	nine := make([]int64, impl.MaxDim+1)
	refused(impl.MaxDim+1, nil, impl.Item{Id: 7, Vec: nine})
	refused(0, nil, impl.Item{Id: 7})
}

func TestPromise7WhatIsDroppedIsNotFound(t *testing.T) {
	d := dice{75}
	for dim := 1; dim <= impl.MaxDim; dim++ {
		for _, count := range []int{1, 2, 3, 7, impl.MaxItems} {
			l := d.items(count, dim)
			for _, i := range l {
				got, ok := impl.ItemDrop(int64(dim), l, i.Id)
				if !ok || !sameItems(got, without(l, i.Id)) || !impl.ItemsOk(int64(dim), got) {
					t.Fatal(l, i, got, ok)
				}
				if found, ok := impl.ItemFind(got, i.Id); ok {
					t.Fatal("what was dropped is found", l, i, found)
				}
				if again, ok := impl.ItemDrop(int64(dim), got, i.Id); ok || len(again) != 0 {
					t.Fatal("dropped twice", l, i, again)
				}
				back, code := impl.ItemPut(int64(dim), got, i)
				if code != impl.ItOk || !sameItems(back, l) {
					t.Fatal("put again", l, i, back, code)
				}
			}
		}
	}
}

func TestItemDropAllFromEachEnd(t *testing.T) {
	for _, first := range []bool{true, false} {
		l := plainItems(impl.MaxItems, 2, 7)
		for len(l) > 0 {
			want, id := l[:len(l)-1], l[len(l)-1].Id
			if first {
				want, id = l[1:], l[0].Id
			}
			got, ok := impl.ItemDrop(2, l, id)
			if !ok || !sameItems(got, want) {
				t.Fatal(l, id, got, ok)
			}
			l = got
		}
	}
}

func TestItemDropWrong(t *testing.T) {
	refused := func(dim int64, l []impl.Item, id int64) {
		t.Helper()
		if got, ok := impl.ItemDrop(dim, l, id); ok || len(got) != 0 {
			t.Error(dim, l, id, got)
		}
	}
	for dim := 1; dim <= impl.MaxDim; dim++ {
		for _, count := range []int{0, 1, 2, 3, impl.MaxItems} {
			l := plainItems(count, dim, 10)
			for _, id := range append(wrongIds(), 1, 9, 11, 15, 599, 601, 9999) {
				refused(int64(dim), l, id)
			}
			for _, wrong := range wrongDims() {
				refused(wrong, l, 10)
			}
		}
		for _, l := range wrongLists(dim) {
			for _, id := range []int64{10, l[0].Id, l[len(l)-1].Id} {
				refused(int64(dim), l, id)
			}
		}
	}
}

// ItemFind asks nothing of the list: of two of one Id it is the first, in
// whatever order they are.
func TestItemFind(t *testing.T) {
	d := dice{76}
	lists := [][]impl.Item{nil, {}}
	for dim := 1; dim <= impl.MaxDim; dim++ {
		lists = append(lists, wrongLists(dim)...)
		for _, count := range []int{0, 1, 2, 3, impl.MaxItems} {
			lists = append(lists, d.items(count, dim))
		}
	}
	for n := 0; n < 300; n++ {
		l := []impl.Item{}
		for range d.upTo(100) {
			l = append(l, d.item(d.upTo(50)-3, 1+int(d.upTo(9))))
		}
		lists = append(lists, l)
	}
	for _, l := range lists {
		ids := append(wrongIds(), 1, 5, 10, 20, 25, 9999)
		for _, i := range l {
			ids = append(ids, i.Id)
		}
		for _, id := range ids {
			want := impl.Item{}
			at := slices.IndexFunc(l, func(i impl.Item) bool { return i.Id == id })
			if at >= 0 {
				want = l[at]
			}
			if got, ok := impl.ItemFind(l, id); ok != (at >= 0) || !sameItem(got, want) {
				t.Fatal(l, id, got, ok)
			}
		}
	}
}

func TestMatchingOfAllTagsAndMasks(t *testing.T) {
	l := []impl.Item{}
	for tags := int64(0); tags < 256; tags++ {
		l = append(l, impl.Item{Id: 1000 - tags, Tags: tags, Vec: []int64{tags}})
	}
	for mask := int64(0); mask < 512; mask++ {
		want := []impl.Item{}
		for _, i := range l {
			has := true
			for bit := int64(1); bit <= 256; bit *= 2 {
				has = has && (mask/bit%2 == 0 || i.Tags/bit%2 == 1)
			}
			if has {
				want = append(want, i)
			}
		}
		if got := impl.Matching(l, mask); !sameItems(got, want) {
			t.Error(mask, got)
		}
	}
}

func TestMatchingEdges(t *testing.T) {
	d := dice{77}
	for dim := 1; dim <= impl.MaxDim; dim++ {
		for _, count := range []int{0, 1, 2, impl.MaxItems} {
			l := d.items(count, dim)
			if got := impl.Matching(l, 0); !sameItems(got, l) {
				t.Error("a mask of 0 is matched by all", l, got)
			}
			for _, mask := range []int64{256, 511, 1 << 40, 1<<63 - 1, -1, -256, -1 << 63} {
				if got := impl.Matching(l, mask); len(got) != 0 {
					t.Error("bits that no item has", mask, l, got)
				}
			}
		}
		for _, l := range wrongLists(dim) {
			if got := impl.Matching(l, 0); !sameItems(got, l) {
				t.Error("it asks nothing of the list", l, got)
			}
		}
	}
	odd := []impl.Item{{Id: 3, Tags: -1}, {Id: 3, Tags: 256}, {Id: 0, Tags: -1 << 63}}
	if got := impl.Matching(odd, -1); !sameItems(got, odd[:1]) {
		t.Error(got)
	}
	if got := impl.Matching(odd, 256); !sameItems(got, odd[:2]) {
		t.Error(got)
	}
	if got := impl.Matching(odd, -1<<63); !sameItems(got, []impl.Item{odd[0], odd[2]}) {
		t.Error(got)
	}
}

// roomyItems have marks in the spare room behind the list and each vector.
func roomyItems(l []impl.Item) []impl.Item {
	wide := cloneItems(l)
	for at := range wide {
		wide[at].Vec = roomy(wide[at].Vec)
	}
	wide = append(wide, impl.Item{Id: 77, Tags: 77, Vec: []int64{77}}, impl.Item{Id: 78, Tags: 78, Vec: []int64{78}})
	return wide[:len(l):len(wide)]
}

func untouchedItems(roomed []impl.Item, l []impl.Item) bool {
	for _, i := range roomed {
		if !untouched(i.Vec, i.Vec[:len(i.Vec):len(i.Vec)]) {
			return false
		}
	}
	marks := []impl.Item{{Id: 77, Tags: 77, Vec: []int64{77}}, {Id: 78, Tags: 78, Vec: []int64{78}}}
	return sameItems(roomed[:cap(roomed)], append(cloneItems(l), marks...))
}

// spoilItems writes over an answer, and tells whether a vector of it changed
// with another one.
func spoilItems(l []impl.Item) bool {
	kept := cloneItems(l)
	alone := true
	for at := range l {
		alone = alone && slices.Equal(l[at].Vec, kept[at].Vec)
		spoil(l[at].Vec)
	}
	l = l[:cap(l)]
	for at := range l {
		l[at] = impl.Item{Id: -99, Tags: -99}
	}
	return alone
}

func TestPromise15ItemsLeaveArgumentsAlone(t *testing.T) {
	first := []impl.Item{{Id: 10, Tags: 3, Vec: []int64{1, 2}}, {Id: 20, Tags: 1, Vec: []int64{3, 4}}, {Id: 30, Tags: 3, Vec: []int64{5, 6}}}
	v := []int64{8, 9}
	for _, id := range []int64{5, 10, 15, 20, 25, 30, 35} {
		l, numbers := roomyItems(first), roomy(v)
		answers := func() [][]impl.Item {
			put, _ := impl.ItemPut(2, l, impl.Item{Id: id, Tags: 2, Vec: numbers})
			drop, _ := impl.ItemDrop(2, l, id)
			found, _ := impl.ItemFind(l, id)
			impl.ItemsOk(2, l)
			return [][]impl.Item{put, drop, {found}, impl.Matching(l, 0), impl.Matching(l, 2)}
		}
		kept := [][]impl.Item{}
		for _, answer := range answers() {
			kept = append(kept, cloneItems(answer))
			if !spoilItems(answer) {
				t.Error("lists of one answer share memory", id, answer)
			}
		}
		if !untouchedItems(l, first) || !untouched(numbers, v) {
			t.Error("an argument is changed", id, l, numbers)
		}
		if again := answers(); !slices.EqualFunc(again, kept, sameItems) {
			t.Error("another answer the second time", id, kept, again)
		}
	}
}

// Where arguments share one vector, what is answered does not.
func TestItemsOfOneVectorComeApart(t *testing.T) {
	v := []int64{4, 5}
	l := []impl.Item{{Id: 1, Vec: v}, {Id: 2, Vec: v}, {Id: 3, Vec: v}}
	put, _ := impl.ItemPut(2, l, impl.Item{Id: 4, Vec: v})
	drop, _ := impl.ItemDrop(2, l, 2)
	for _, answer := range [][]impl.Item{put, drop, impl.Matching(l, 0)} {
		if len(answer) < 2 || !spoilItems(answer) {
			t.Error("lists of one answer share memory", answer)
		}
	}
	if !slices.Equal(v, []int64{4, 5}) {
		t.Error("an argument is changed", v)
	}
}
