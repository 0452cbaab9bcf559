package tests

import (
	"testing"

	"loop.example/g00707/impl"
)

var allTiers = []int64{1, 2, 3}

var noTiers = []int64{-1 << 63, -1, 0, 4, 5, 8, 16, 256, 1 << 32, 1<<63 - 1}

func cellsOfTier(tier int64) int64 {
	return []int64{0, 2, 16, 256}[tier]
}

// beginOf divides, where the program shifts.
func beginOf(r impl.Range, tier int64, code int64) int64 {
	return r.Lo + (r.Hi-r.Lo+1)*code/cellsOfTier(tier)
}

// cutRanges are of one number, of fewer numbers than cells, of as many, of
// one more or less, and from end to end.
func cutRanges() []impl.Range {
	const far = impl.MaxComp
	l := []impl.Range{
		{Lo: -far, Hi: far}, {Lo: -far, Hi: -far}, {Lo: far, Hi: far}, {Lo: 0, Hi: far}, {Lo: -far, Hi: 0},
		{Lo: -far, Hi: far - 1}, {Lo: 1 - far, Hi: far},
	}
	for _, lo := range []int64{0, -3, -far, 7} {
		for _, size := range []int64{1, 2, 3, 5, 15, 16, 17, 20, 31, 255, 256, 257, 300} {
			l = append(l, impl.Range{Lo: lo, Hi: lo + size - 1})
		}
	}
	d := dice{31}
	for n := 0; n < 40; n++ {
		a, b := d.number(), d.number()
		l = append(l, impl.Range{Lo: min(a, b), Hi: max(a, b)})
	}
	return l
}

// someOf is all numbers of a short range; of a long one those near its ends
// and near the ends of its cells.
func someOf(r impl.Range) []int64 {
	l := []int64{}
	if r.Hi-r.Lo < 1000 {
		for x := r.Lo; x <= r.Hi; x++ {
			l = append(l, x)
		}
		return l
	}
	for _, tier := range allTiers {
		for code := int64(0); code <= cellsOfTier(tier); code++ {
			for by := int64(-2); by <= 2; by++ {
				if x := beginOf(r, tier, code) + by; r.Lo <= x && x <= r.Hi {
					l = append(l, x)
				}
			}
		}
	}
	return l
}

func wrongRanges() []impl.Range {
	l := []impl.Range{}
	for _, r := range smallRanges() {
		if !isRight(r) {
			l = append(l, r)
		}
	}
	return l
}

func TestCellsOf(t *testing.T) {
	for _, tier := range allTiers {
		if got := impl.CellsOf(tier); got != cellsOfTier(tier) {
			t.Error(tier, got)
		}
	}
	for _, tier := range noTiers {
		if got := impl.CellsOf(tier); got != 0 {
			t.Error("no tier", tier, got)
		}
	}
}

func TestCellOfIsCutAsTold(t *testing.T) {
	for _, r := range cutRanges() {
		for _, tier := range allTiers {
			for code := int64(0); code < cellsOfTier(tier); code++ {
				want := impl.Range{Lo: beginOf(r, tier, code), Hi: beginOf(r, tier, code+1) - 1}
				some := want.Lo <= want.Hi
				if !some {
					want = impl.Range{}
				}
				if got, ok := impl.CellOf(r, tier, code); ok != some || got != want {
					t.Fatal(r, tier, code, got, ok, want)
				}
			}
		}
	}
}

func TestPromise3CellsPartTheRange(t *testing.T) {
	for _, r := range cutRanges() {
		for _, tier := range allTiers {
			next := r.Lo
			for code := int64(0); code < cellsOfTier(tier); code++ {
				cell, ok := impl.CellOf(r, tier, code)
				if !ok {
					continue
				}
				if cell.Lo != next || cell.Hi < cell.Lo {
					t.Fatal("a gap, or two have one", r, tier, code, cell)
				}
				next = cell.Hi + 1
			}
			if next != r.Hi+1 {
				t.Fatal("the end is in no cell", r, tier, next)
			}
		}
	}
}

func TestPromise3CodeIsOfTheCellThatHasIt(t *testing.T) {
	for _, r := range cutRanges() {
		for _, tier := range allTiers {
			for _, x := range someOf(r) {
				code := impl.CodeOf(r, tier, x)
				if cell, ok := impl.CellOf(r, tier, code); code < 0 || !ok || !isIn(cell, x) {
					t.Fatal(r, tier, x, code, cell)
				}
			}
		}
	}
}

func TestPromise3CellsOfATierAreWithinThoseAhead(t *testing.T) {
	for _, r := range cutRanges() {
		for _, x := range someOf(r) {
			within := r
			for _, tier := range allTiers {
				cell, ok := impl.CellOf(r, tier, impl.CodeOf(r, tier, x))
				if !ok || !impl.RangeLeq(cell, within) {
					t.Fatal(r, tier, x, cell, within)
				}
				within = cell
			}
		}
	}
}

func TestCodeOfFirstAndLastCell(t *testing.T) {
	r := impl.Range{Lo: -impl.MaxComp, Hi: impl.MaxComp}
	for _, tier := range allTiers {
		last := cellsOfTier(tier) - 1
		if a, b := impl.CodeOf(r, tier, r.Lo), impl.CodeOf(r, tier, r.Hi); a != 0 || b != last {
			t.Error(tier, a, b)
		}
		first, okFirst := impl.CellOf(r, tier, 0)
		end, okEnd := impl.CellOf(r, tier, last)
		if !okFirst || !okEnd || first.Lo != r.Lo || end.Hi != r.Hi {
			t.Error(tier, first, end)
		}
	}
	one := impl.Range{Lo: 5, Hi: 5}
	for _, tier := range allTiers {
		last := cellsOfTier(tier) - 1
		if got := impl.CodeOf(one, tier, 5); got != last {
			t.Error("one number is in the last cell", tier, got)
		}
		if cell, ok := impl.CellOf(one, tier, last); !ok || cell != one {
			t.Error("the last cell of one number", tier, cell, ok)
		}
	}
}

func TestCodeOfWrong(t *testing.T) {
	for _, r := range cutRanges() {
		for _, tier := range allTiers {
			for _, x := range []int64{r.Lo - 1, r.Hi + 1, -1 << 63, 1<<63 - 1} {
				if got := impl.CodeOf(r, tier, x); got != -1 {
					t.Error("it has not", r, tier, x, got)
				}
			}
		}
		for _, tier := range noTiers {
			if got := impl.CodeOf(r, tier, r.Lo); got != -1 {
				t.Error("no tier", r, tier, got)
			}
		}
	}
	for _, r := range wrongRanges() {
		for _, tier := range allTiers {
			for _, x := range smallEnds {
				if got := impl.CodeOf(r, tier, x); got != -1 {
					t.Error("not right", r, tier, x, got)
				}
			}
		}
	}
}

func TestCellOfMinusOne(t *testing.T) {
	all := impl.Range{Lo: -impl.MaxComp, Hi: impl.MaxComp}
	for _, r := range cutRanges() {
		for _, tier := range allTiers {
			if cell, ok := impl.CellOf(r, tier, -1); !ok || cell != all {
				t.Error(r, tier, cell, ok)
			}
		}
	}
}

func TestCellOfWrong(t *testing.T) {
	none := func(r impl.Range, tier int64, code int64) {
		if cell, ok := impl.CellOf(r, tier, code); ok || cell != (impl.Range{}) {
			t.Error(r, tier, code, cell, ok)
		}
	}
	right := impl.Range{Lo: -1000, Hi: 1000}
	for _, tier := range allTiers {
		for _, code := range []int64{-2, -3, -1 << 63, cellsOfTier(tier), cellsOfTier(tier) + 1, 1 << 40, 1<<63 - 1} {
			none(right, tier, code)
		}
	}
	for _, tier := range noTiers {
		for _, code := range []int64{-1, 0, 1} {
			none(right, tier, code)
		}
	}
	for _, r := range wrongRanges() {
		for _, code := range []int64{-1, 0, 1} {
			none(r, 1, code)
		}
	}
	none(impl.Range{Lo: 5, Hi: 5}, 1, 0)
	none(impl.Range{Lo: 5, Hi: 5}, 3, 254)
	none(impl.Range{Lo: 0, Hi: 14}, 2, 0)
}

func TestFinerIsFirstAndLastThatMeet(t *testing.T) {
	for _, r := range cutRanges() {
		for _, from := range allTiers {
			for code := int64(0); code < cellsOfTier(from); code++ {
				cell, some := impl.CellOf(r, from, code)
				for to := from; to <= 3; to++ {
					first, last, ok := impl.Finer(r, code, from, to)
					wantFirst, wantLast := firstAndLast(r, cell, some, to)
					if ok != some || first != wantFirst || last != wantLast {
						t.Fatal(r, from, code, to, first, last, ok)
					}
				}
			}
		}
	}
}

// firstAndLast asks each cell of a tier whether it meets the one that is told.
func firstAndLast(r impl.Range, cell impl.Range, some bool, tier int64) (int64, int64) {
	first, last := int64(-1), int64(0)
	for code := int64(0); some && code < cellsOfTier(tier); code++ {
		fine := impl.Range{Lo: beginOf(r, tier, code), Hi: beginOf(r, tier, code+1) - 1}
		if _, meet := impl.RangeMeet(cell, fine); meet {
			last = code
			if first < 0 {
				first = code
			}
		}
	}
	return max(first, 0), last
}

func TestFinerToItselfAndToTheLastTier(t *testing.T) {
	r := impl.Range{Lo: -impl.MaxComp, Hi: impl.MaxComp}
	for _, from := range allTiers {
		for _, code := range []int64{0, 1, cellsOfTier(from) - 1} {
			if a, b, ok := impl.Finer(r, code, from, from); !ok || a != code || b != code {
				t.Error("to itself", from, code, a, b, ok)
			}
			part := 256 / cellsOfTier(from)
			if a, b, ok := impl.Finer(r, code, from, 3); !ok || a != code*part || b != code*part+part-1 {
				t.Error("to the last", from, code, a, b, ok)
			}
		}
	}
}

func TestFinerWrong(t *testing.T) {
	none := func(r impl.Range, code int64, from int64, to int64) {
		if a, b, ok := impl.Finer(r, code, from, to); ok || a != 0 || b != 0 {
			t.Error(r, code, from, to, a, b, ok)
		}
	}
	right := impl.Range{Lo: -1000, Hi: 1000}
	for _, from := range allTiers {
		for _, to := range allTiers {
			for _, code := range []int64{-1, -2, cellsOfTier(from), -1 << 63, 1<<63 - 1} {
				none(right, code, from, to)
			}
			if to < from {
				none(right, 0, from, to)
				none(right, 1, from, to)
			}
			none(impl.Range{Lo: 5, Hi: 5}, 0, from, to)
			for _, r := range wrongRanges() {
				none(r, 1, from, to)
			}
		}
		for _, tier := range noTiers {
			none(right, 1, from, tier)
			none(right, 1, tier, from)
			none(right, 1, tier, tier)
		}
	}
}
