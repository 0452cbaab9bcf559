package tests

import (
	"slices"
	"testing"

	"loop.example/g00707/impl"
)

const lowest, highest = -impl.MaxComp, impl.MaxComp

var anyNumber = impl.Range{Lo: lowest, Hi: highest}

// numbersBy are numbers of a range, its ends among them, and numbers beside
// it, as far as a vector may have them.
func numbersBy(r impl.Range) []int64 {
	l := someOf(r)
	for _, x := range []int64{r.Lo - 1, r.Hi + 1, lowest, highest} {
		if lowest <= x && x <= highest {
			l = append(l, x)
		}
	}
	return l
}

// vectorBy has often a number at an end of its range, or just beyond it.
func (d *dice) vectorBy(book []impl.Range) []int64 {
	v := make([]int64, len(book))
	for i, r := range book {
		switch d.upTo(4) {
		case 0:
			v[i] = max(r.Lo-1, lowest)
		case 1:
			v[i] = min(r.Hi+1, highest)
		case 2:
			v[i] = d.number()
		default:
			v[i] = d.numberOf(r)
		}
	}
	return v
}

// book has ranges of one number, of fewer numbers than cells, and of more.
func (d *dice) book(dim int) []impl.Range {
	l := d.box(dim)
	for i := range l {
		switch d.upTo(4) {
		case 0:
			l[i].Hi = l[i].Lo
		case 1:
			l[i].Hi = min(l[i].Lo+d.upTo(20), highest)
		case 2:
			l[i].Hi = min(l[i].Lo+d.upTo(300), highest)
		}
	}
	return l
}

func codesOfRow(r impl.Row) [][]int64 {
	return [][]int64{r.C1, r.C2, r.C3}
}

func sameRow(a impl.Row, b impl.Row) bool {
	return slices.EqualFunc(codesOfRow(a), codesOfRow(b), slices.Equal)
}

func cloneRow(r impl.Row) impl.Row {
	return impl.Row{C1: slices.Clone(r.C1), C2: slices.Clone(r.C2), C3: slices.Clone(r.C3)}
}

func rowOfCodes(c [3]int64) impl.Row {
	return impl.Row{C1: []int64{c[0]}, C2: []int64{c[1]}, C3: []int64{c[2]}}
}

// isBeside counts the places whose number is in no range.
func isBeside(book []impl.Range, v []int64) int64 {
	count := int64(0)
	for i, x := range v {
		if !isIn(book[i], x) {
			count++
		}
	}
	return count
}

func TestRowOfIsCodeOfEachNumber(t *testing.T) {
	d := dice{51}
	for dim := 1; dim <= impl.MaxDim; dim++ {
		for n := 0; n < 300; n++ {
			book := d.book(dim)
			v := d.vectorBy(book)
			r, ok := impl.RowOf(book, v)
			if !ok {
				t.Fatal("refused", book, v)
			}
			for i, codes := range codesOfRow(r) {
				want := []int64{}
				for place, x := range v {
					want = append(want, impl.CodeOf(book[place], allTiers[i], x))
				}
				if !slices.Equal(codes, want) {
					t.Fatal(book, v, i+1, codes, want)
				}
			}
		}
	}
}

// Each place has codes of its own: the last cells beside the first ones, and
// beside what is in no range.
func TestRowOfKeepsPlacesApart(t *testing.T) {
	book := slices.Repeat([]impl.Range{{Lo: 0, Hi: 255}}, impl.MaxDim)
	for place := range book {
		for _, w := range []struct {
			rest, at int64
			codes    [3]int64
			others   [3]int64
		}{
			{0, 255, [3]int64{1, 15, 255}, [3]int64{0, 0, 0}},
			{255, 0, [3]int64{0, 0, 0}, [3]int64{1, 15, 255}},
			{255, -1, [3]int64{-1, -1, -1}, [3]int64{1, 15, 255}},
			{-1, 255, [3]int64{1, 15, 255}, [3]int64{-1, -1, -1}},
			{0, 256, [3]int64{-1, -1, -1}, [3]int64{0, 0, 0}},
			{128, 127, [3]int64{0, 7, 127}, [3]int64{1, 8, 128}},
		} {
			v := slices.Repeat([]int64{w.rest}, impl.MaxDim)
			v[place] = w.at
			r, ok := impl.RowOf(book, v)
			for i, codes := range codesOfRow(r) {
				want := slices.Repeat([]int64{w.others[i]}, impl.MaxDim)
				want[place] = w.codes[i]
				if !ok || !slices.Equal(codes, want) {
					t.Fatal(v, i+1, codes, want)
				}
			}
		}
	}
}

func TestRowOfOneNumberRange(t *testing.T) {
	for _, x := range []int64{lowest, -1, 0, 5, highest} {
		book := []impl.Range{{Lo: x, Hi: x}}
		if r, ok := impl.RowOf(book, []int64{x}); !ok || !sameRow(r, rowOfCodes([3]int64{1, 15, 255})) {
			t.Error("the number", x, r, ok)
		}
		for _, y := range numbersBy(book[0]) {
			if r, ok := impl.RowOf(book, []int64{y}); y != x && (!ok || !sameRow(r, rowOfCodes([3]int64{-1, -1, -1}))) {
				t.Error("beside it", x, y, r, ok)
			}
		}
	}
}

func TestRowOfWrong(t *testing.T) {
	none := func(book []impl.Range, v []int64) {
		if r, ok := impl.RowOf(book, v); ok || len(r.C1)+len(r.C2)+len(r.C3) != 0 {
			t.Error(book, v, r, ok)
		}
	}
	for _, book := range wrongBoxes() {
		none(book, make([]int64, len(book)))
		none(book, []int64{0})
	}
	for _, v := range wrongVectors() {
		none(make([]impl.Range, max(1, min(len(v), impl.MaxDim))), v)
	}
	for dim := 1; dim <= impl.MaxDim; dim++ {
		none(make([]impl.Range, dim), make([]int64, dim-1))
		none(make([]impl.Range, dim), make([]int64, dim+1))
	}
}

func TestPromise5BoxHasTheVectorTierByTier(t *testing.T) {
	d := dice{52}
	for dim := 1; dim <= impl.MaxDim; dim++ {
		for n := 0; n < 500; n++ {
			book := d.book(dim)
			v := d.vectorBy(book)
			holdsPromise5(t, book, v)
		}
	}
}

func TestPromise5AtTheEndsOfRanges(t *testing.T) {
	for _, r := range cutRanges() {
		for _, x := range numbersBy(r) {
			holdsPromise5(t, []impl.Range{r}, []int64{x})
			full := slices.Repeat([]impl.Range{{Lo: -3, Hi: 2}}, impl.MaxDim)
			v := slices.Repeat([]int64{2}, impl.MaxDim)
			full[impl.MaxDim-1], v[impl.MaxDim-1] = r, x
			holdsPromise5(t, full, v)
		}
	}
}

func holdsPromise5(t *testing.T, book []impl.Range, v []int64) {
	t.Helper()
	r, ok := impl.RowOf(book, v)
	if !ok || !impl.RowOk(book, r) {
		t.Fatal("its row is not right", book, v, r, ok)
	}
	ahead := slices.Repeat([]impl.Range{anyNumber}, len(book))
	for _, tier := range allTiers {
		box, ok := impl.BoxOf(book, r, tier)
		if !ok || !impl.BoxHas(box, v) || !impl.BoxLeq(box, ahead) {
			t.Fatal(book, v, tier, box, ahead, ok)
		}
		ahead = box
	}
}

func TestBoxOfIsCellOfEachCode(t *testing.T) {
	d := dice{53}
	for n := 0; n < 1000; n++ {
		book := d.book(int(d.upTo(impl.MaxDim)) + 1)
		r, _ := impl.RowOf(book, d.vectorBy(book))
		for i, codes := range codesOfRow(r) {
			box, ok := impl.BoxOf(book, r, allTiers[i])
			if !ok || len(box) != len(book) {
				t.Fatal(book, r, i+1, box, ok)
			}
			for place, code := range codes {
				if cell, _ := impl.CellOf(book[place], allTiers[i], code); box[place] != cell {
					t.Fatal(book, r, i+1, place, box, cell)
				}
			}
		}
	}
}

// All codes that may come near to right ones are asked; right are just those
// that some number has.
func TestRowOkOfAllCodesOfAPlace(t *testing.T) {
	const far = impl.MaxComp
	for _, r := range []impl.Range{
		{Lo: 5, Hi: 5}, {Lo: -far, Hi: -far}, {Lo: far, Hi: far}, {Lo: 0, Hi: 2}, {Lo: -10, Hi: 9},
		{Lo: 0, Hi: 255}, {Lo: -100, Hi: 200}, {Lo: -far, Hi: 0}, {Lo: 0, Hi: far},
		{Lo: -far, Hi: far}, {Lo: 1 - far, Hi: far}, {Lo: -far, Hi: far - 1},
	} {
		had := map[[3]int64]int{}
		for _, x := range numbersBy(r) {
			had[[3]int64{impl.CodeOf(r, 1, x), impl.CodeOf(r, 2, x), impl.CodeOf(r, 3, x)}]++
		}
		book := []impl.Range{r}
		for c1 := int64(-2); c1 <= 2; c1++ {
			for c2 := int64(-2); c2 <= 17; c2++ {
				for c3 := int64(-2); c3 <= 260; c3++ {
					codes := [3]int64{c1, c2, c3}
					if got := impl.RowOk(book, rowOfCodes(codes)); got != (had[codes] > 0) {
						t.Fatal(r, codes, got)
					}
				}
			}
		}
	}
}

// Where a range has every number, no vector has a code of -1 there.
func TestRowOkOfMinusOneAlone(t *testing.T) {
	for dim := 1; dim <= impl.MaxDim; dim++ {
		minus := slices.Repeat([]int64{-1}, dim)
		r := impl.Row{C1: minus, C2: minus, C3: minus}
		for _, w := range []struct {
			at impl.Range
			ok bool
		}{
			{impl.Range{}, true},
			{impl.Range{Lo: lowest + 1, Hi: highest}, true},
			{impl.Range{Lo: lowest, Hi: highest - 1}, true},
			{anyNumber, false},
		} {
			for place := 0; place < dim; place++ {
				book := make([]impl.Range, dim)
				book[place] = w.at
				count := int64(-1)
				if w.ok {
					count = int64(dim)
				}
				if impl.RowOk(book, r) != w.ok || impl.EscapesOf(book, r) != count {
					t.Error(book, w.ok, impl.EscapesOf(book, r))
				}
				for _, tier := range allTiers {
					box, ok := impl.BoxOf(book, r, tier)
					if ok != w.ok || ok && !slices.Equal(box, slices.Repeat([]impl.Range{anyNumber}, dim)) || !ok && len(box) != 0 {
						t.Error(book, tier, box, ok)
					}
				}
			}
		}
	}
}

func wrongRows(book []impl.Range, right impl.Row) []impl.Row {
	l := []impl.Row{{}}
	for which := range 3 {
		for _, change := range []func(codes []int64) []int64{
			func(codes []int64) []int64 { return nil },
			func(codes []int64) []int64 { return codes[1:] },
			func(codes []int64) []int64 { return codes[:len(codes)-1] },
			func(codes []int64) []int64 { return append(codes, codes[0]) },
			func(codes []int64) []int64 { return append(codes, -1) },
			func(codes []int64) []int64 { codes[len(codes)-1] = -2; return codes },
			func(codes []int64) []int64 { codes[0] = cellsOfTier(allTiers[which]); return codes },
			func(codes []int64) []int64 { codes[0] += 256; return codes },
			func(codes []int64) []int64 { codes[0] += 1 << 32; return codes },
			func(codes []int64) []int64 { codes[0] = -1 << 63; return codes },
			func(codes []int64) []int64 { codes[0] = 1<<63 - 1; return codes },
		} {
			r := cloneRow(right)
			at := []*[]int64{&r.C1, &r.C2, &r.C3}[which]
			*at = change(*at)
			l = append(l, r)
		}
	}
	longer := cloneRow(right)
	longer.C1, longer.C2, longer.C3 = append(longer.C1, -1), append(longer.C2, -1), append(longer.C3, -1)
	shorter := impl.Row{C1: right.C1[1:], C2: right.C2[1:], C3: right.C3[1:]}
	return append(l, longer, shorter)
}

func TestRowsThatAreNotRight(t *testing.T) {
	d := dice{54}
	refused := func(book []impl.Range, r impl.Row) {
		t.Helper()
		if impl.RowOk(book, r) || impl.EscapesOf(book, r) != -1 {
			t.Error("taken", book, r)
		}
		for _, tier := range allTiers {
			if box, ok := impl.BoxOf(book, r, tier); ok || len(box) != 0 {
				t.Error("a box", book, r, tier, box)
			}
		}
	}
	for dim := 1; dim <= impl.MaxDim; dim++ {
		book := d.book(dim)
		right, _ := impl.RowOf(book, d.vectorOf(book))
		for _, r := range wrongRows(book, right) {
			refused(book, r)
		}
	}
	for _, book := range wrongBoxes() {
		codes := make([]int64, len(book))
		refused(book, impl.Row{C1: codes, C2: codes, C3: codes})
		minus := slices.Repeat([]int64{-1}, len(book))
		refused(book, impl.Row{C1: minus, C2: minus, C3: minus})
	}
	refused(nil, impl.Row{})
}

func TestBoxOfNoTier(t *testing.T) {
	book := []impl.Range{{Lo: -10, Hi: 9}, {Lo: 0, Hi: 0}}
	for _, v := range [][]int64{{3, 0}, {3, 1}, {-11, 1}} {
		r, _ := impl.RowOf(book, v)
		for _, tier := range noTiers {
			if box, ok := impl.BoxOf(book, r, tier); ok || len(box) != 0 {
				t.Error(v, tier, box)
			}
		}
	}
}

func TestEscapesOfCountsPlaces(t *testing.T) {
	d := dice{55}
	for dim := 1; dim <= impl.MaxDim; dim++ {
		for n := 0; n < 300; n++ {
			book := d.book(dim)
			v := d.vectorBy(book)
			r, _ := impl.RowOf(book, v)
			if got := impl.EscapesOf(book, r); got != isBeside(book, v) {
				t.Fatal(book, v, got)
			}
		}
		book := make([]impl.Range, dim)
		v := make([]int64, dim)
		for place := 0; place < dim; place++ {
			v[place] = 1
			r, _ := impl.RowOf(book, v)
			if got := impl.EscapesOf(book, r); got != int64(place+1) {
				t.Error(v, got)
			}
		}
	}
}

func TestDriftOfCountsVectors(t *testing.T) {
	d := dice{56}
	for dim := 1; dim <= impl.MaxDim; dim++ {
		for _, count := range []int{0, 1, 2, 17, impl.MaxItems - 1, impl.MaxItems} {
			book := d.book(dim)
			l, want := [][]int64{}, int64(0)
			for n := 0; n < count; n++ {
				v := d.vectorOf(book)
				if d.upTo(2) == 0 {
					v = d.vectorBy(book)
				}
				l = append(l, v)
				want += min(isBeside(book, v), 1)
			}
			if got := impl.DriftOf(book, l); got != want {
				t.Fatal(book, l, got, want)
			}
		}
	}
	if got := impl.DriftOf([]impl.Range{{Lo: 1, Hi: 2}}, nil); got != 0 {
		t.Error("of no vector", got)
	}
	if got := impl.DriftOf([]impl.Range{{Lo: 1, Hi: 2}, {Lo: 1, Hi: 2}}, [][]int64{{3, 3}}); got != 1 {
		t.Error("a vector counts once", got)
	}
	if got := impl.DriftOf([]impl.Range{{}}, slices.Repeat([][]int64{{9}}, impl.MaxItems)); got != impl.MaxItems {
		t.Error("all of as many as may be", got)
	}
}

func TestDriftOfWrong(t *testing.T) {
	none := func(book []impl.Range, l [][]int64) {
		if got := impl.DriftOf(book, l); got != -1 {
			t.Error(book, l, got)
		}
	}
	for _, book := range wrongBoxes() {
		none(book, nil)
		none(book, [][]int64{make([]int64, len(book))})
	}
	for dim := 1; dim <= impl.MaxDim; dim++ {
		book, right := make([]impl.Range, dim), make([]int64, dim)
		none(book, slices.Repeat([][]int64{right}, impl.MaxItems+1))
		for _, v := range append(wrongVectors(), make([]int64, dim-1), make([]int64, dim+1)) {
			if len(v) == dim && impl.VecOk(v) {
				t.Fatal("the test is wrong", v)
			}
			none(book, [][]int64{v})
			none(book, [][]int64{v, right})
			none(book, append(slices.Repeat([][]int64{right}, impl.MaxItems-1), v))
		}
	}
}

func TestPromise15BooksLeaveArgumentsAlone(t *testing.T) {
	first := []impl.Range{{Lo: -10, Hi: 9}, {Lo: 0, Hi: 0}, {Lo: 7, Hi: 7}, {Lo: 8, Hi: 8}}
	whole := slices.Clone(first)
	book := whole[:2]
	v := []int64{-7, 5}
	q := roomy(v)
	made, _ := impl.RowOf(book, v)
	r := impl.Row{C1: roomy(made.C1), C2: roomy(made.C2), C3: roomy(made.C3)}
	answers := func() (impl.Row, []impl.Range, []int64) {
		row, _ := impl.RowOf(book, q)
		box, _ := impl.BoxOf(book, r, 2)
		l := [][]int64{q, q, {99}}
		return row, box, []int64{impl.EscapesOf(book, r), impl.DriftOf(book, l[:2])}
	}
	row, box, numbers := answers()
	keptRow, keptBox := cloneRow(row), slices.Clone(box)
	spoil(row.C1)
	if !slices.Equal(row.C2, keptRow.C2) || !slices.Equal(row.C3, keptRow.C3) {
		t.Error("lists of one answer share memory", row)
	}
	spoil(row.C2)
	if !slices.Equal(row.C3, keptRow.C3) {
		t.Error("lists of one answer share memory", row)
	}
	spoil(row.C3)
	for i := range box[:cap(box)] {
		box[:cap(box)][i] = impl.Range{Lo: -99, Hi: -99}
	}
	if !slices.Equal(whole, first) || !untouched(q, v) {
		t.Error("an argument is changed", whole, q)
	}
	if !untouched(r.C1, made.C1) || !untouched(r.C2, made.C2) || !untouched(r.C3, made.C3) {
		t.Error("a row is changed", r)
	}
	again, boxAgain, numbersAgain := answers()
	if !sameRow(again, keptRow) || !slices.Equal(boxAgain, keptBox) || !slices.Equal(numbers, numbersAgain) {
		t.Error("another answer the second time", again, boxAgain, numbersAgain)
	}
}
