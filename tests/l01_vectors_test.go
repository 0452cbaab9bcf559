package tests

import (
	"regexp"
	"slices"
	"strconv"
	"strings"
	"testing"

	"loop.example/g00707/impl"
)

func TestVecOk(t *testing.T) {
	for _, v := range edgeVectors() {
		if !impl.VecOk(v) {
			t.Error("a vector is refused", v)
		}
	}
	for dim := 1; dim <= impl.MaxDim; dim++ {
		if !impl.VecOk(make([]int64, dim)) {
			t.Error("a vector is refused, of dim", dim)
		}
		for place := 0; place < dim; place++ {
			for _, x := range []int64{impl.MaxComp + 1, -impl.MaxComp - 1, 1<<63 - 1, -1 << 63} {
				v := make([]int64, dim)
				v[place] = x
				if impl.VecOk(v) {
					t.Error("no vector is taken", v)
				}
			}
		}
	}
	for _, v := range wrongVectors() {
		if impl.VecOk(v) {
			t.Error("no vector is taken", v)
		}
	}
}

func TestDistOfIsTheSumOfSquares(t *testing.T) {
	d := dice{1}
	for n := 0; n < 2000; n++ {
		dim := int(d.upTo(impl.MaxDim)) + 1
		a, b := d.vector(dim), d.vector(dim)
		want := int64(0)
		for i := range a {
			want += (a[i] - b[i]) * (a[i] - b[i])
		}
		if got := impl.DistOf(a, b); got != want {
			t.Fatal(a, b, got, want)
		}
	}
	far := slices.Repeat([]int64{impl.MaxComp}, impl.MaxDim)
	if got := impl.DistOf(far, impl.VecNeg(far)); got != 1<<45 {
		t.Error("the farthest two", got)
	}
}

func TestPromise1SameEitherWay(t *testing.T) {
	d := dice{2}
	for n := 0; n < 2000; n++ {
		dim := int(d.upTo(impl.MaxDim)) + 1
		a, b := d.vector(dim), d.vector(dim)
		if impl.DistOf(a, b) != impl.DistOf(b, a) {
			t.Fatal(a, b)
		}
	}
}

func TestPromise1NoughtJustToItself(t *testing.T) {
	for _, v := range edgeVectors() {
		if got := impl.DistOf(v, slices.Clone(v)); got != 0 {
			t.Error("to itself", v, got)
		}
		for place := range v {
			w := slices.Clone(v)
			w[place]--
			if v[place] == -impl.MaxComp {
				w[place] = v[place] + 1
			}
			if got := impl.DistOf(v, w); got != 1 {
				t.Error("one step off", v, w, got)
			}
		}
	}
}

func TestPromise1MovedTogether(t *testing.T) {
	d := dice{3}
	moved := 0
	for n := 0; n < 20000; n++ {
		dim := int(d.upTo(3)) + 1
		a, b, by := d.vector(dim), d.vector(dim), d.vector(dim)
		movedA, okA := impl.VecAdd(a, by)
		movedB, okB := impl.VecAdd(b, by)
		if !okA || !okB {
			continue
		}
		moved++
		if impl.DistOf(a, b) != impl.DistOf(movedA, movedB) {
			t.Fatal(a, b, by)
		}
	}
	if moved < 1000 {
		t.Error("too few were moved", moved)
	}
}

func TestDistOfWrong(t *testing.T) {
	right := []int64{1, 2}
	for _, v := range wrongVectors() {
		if impl.DistOf(v, right) != -1 || impl.DistOf(right, v) != -1 || impl.DistOf(v, v) != -1 {
			t.Error(v)
		}
	}
	for _, r := range [][2][]int64{{{1}, {1, 2}}, {{1}, {1, 0}}, {{0}, make([]int64, impl.MaxDim)}, {{0, 0, 0}, {0, 0}}} {
		if impl.DistOf(r[0], r[1]) != -1 || impl.DistOf(r[1], r[0]) != -1 {
			t.Error("not equally long", r)
		}
	}
}

func TestPromise1ComesBackFromText(t *testing.T) {
	d := dice{4}
	l := edgeVectors()
	for dim := 1; dim <= impl.MaxDim; dim++ {
		l = append(l, d.vectors(200, dim)...)
	}
	for _, v := range l {
		words := []string{}
		for _, x := range v {
			words = append(words, strconv.FormatInt(x, 10))
		}
		s := impl.VecText(v)
		if s != strings.Join(words, ",") {
			t.Fatal("text", v, s)
		}
		if back, ok := impl.ReadVec(s); !ok || !slices.Equal(back, v) {
			t.Fatal("back", s, back, ok)
		}
	}
	for _, v := range wrongVectors() {
		if s := impl.VecText(v); s != "" {
			t.Error("no vector has no text", v, s)
		}
	}
}

func TestReadVecRefuses(t *testing.T) {
	for _, s := range []string{
		"", ",", "1,", ",1", "1,,2", "1,2,", " 1", "1 ", "1, 2", "1\n", "1\x00",
		"01", "00", "0,00", "-01", "-0", "0,-0", "-", "--1", "1-", "+1", "+0",
		"1_0", "0x1", "1e3", "1.0", "\u0661", "\xff", "a", "1;2",
		"1048577", "-1048577", "0,1048577",
		"0,0,0,0,0,0,0,0,0", "0,0,0,0,0,0,0,0,", "0,0,0,0,0,0,0,0,x",
		"1000000000000000", "10000000000000000", "-10000000000000000", "0000000000000001", "00000000000000001",
		"9223372036854775807", "9223372036854775808", "-9223372036854775808",
		"18446744073709551616", "18446744073709551617", "340282366920938463463374607431768211457",
		strings.Repeat(",", 100000), strings.Repeat("1", 100000), strings.Repeat("0,", 100000) + "0",
	} {
		if v, ok := impl.ReadVec(s); ok || len(v) != 0 {
			t.Errorf("%.40q is read as %v", s, v)
		}
	}
}

// Every text of a few marks is read just when its form is that of a vector's
// text, and then it is the text of what was read.
func TestReadVecOfAllShortTexts(t *testing.T) {
	form := regexp.MustCompile(`^(0|-?[1-9][0-9]*)(,(0|-?[1-9][0-9]*))*$`)
	var try func(s string, more int)
	try = func(s string, more int) {
		v, ok := impl.ReadVec(s)
		if ok != form.MatchString(s) {
			t.Errorf("%q: %v", s, ok)
		}
		if ok && impl.VecText(v) != s {
			t.Errorf("%q: %v", s, v)
		}
		if more == 0 {
			return
		}
		for _, mark := range "-,019+ " {
			try(s+string(mark), more-1)
		}
	}
	try("", 6)
}

func TestVecAdd(t *testing.T) {
	d := dice{5}
	for n := 0; n < 5000; n++ {
		dim := int(d.upTo(impl.MaxDim)) + 1
		a, b := d.vector(dim), d.vector(dim)
		want := make([]int64, dim)
		for i := range want {
			want[i] = a[i] + b[i]
		}
		got, ok := impl.VecAdd(a, b)
		if ok != impl.VecOk(want) || ok && !slices.Equal(got, want) || !ok && len(got) != 0 {
			t.Fatal(a, b, got, ok)
		}
	}
}

func TestVecAddEdges(t *testing.T) {
	for _, r := range []struct {
		a, b []int64
		ok   bool
	}{
		{[]int64{impl.MaxComp - 1}, []int64{1}, true},
		{[]int64{impl.MaxComp}, []int64{1}, false},
		{[]int64{1 - impl.MaxComp}, []int64{-1}, true},
		{[]int64{-impl.MaxComp}, []int64{-1}, false},
		{[]int64{impl.MaxComp}, []int64{-impl.MaxComp}, true},
		{[]int64{0, 0, impl.MaxComp}, []int64{0, 0, impl.MaxComp}, false},
		{[]int64{1}, []int64{1, 0}, false},
		{[]int64{1, 0}, []int64{1}, false},
	} {
		if got, ok := impl.VecAdd(r.a, r.b); ok != r.ok || !ok && len(got) != 0 {
			t.Error(r, got, ok)
		}
	}
	for _, v := range wrongVectors() {
		for _, w := range [][]int64{{0}, make([]int64, len(v)), v} {
			if got, ok := impl.VecAdd(v, w); ok || len(got) != 0 {
				t.Error(v, w, got)
			}
			if got, ok := impl.VecAdd(w, v); ok || len(got) != 0 {
				t.Error(w, v, got)
			}
		}
	}
}

func TestVecNeg(t *testing.T) {
	d := dice{6}
	for n := 0; n < 1000; n++ {
		v := d.vector(int(d.upTo(impl.MaxDim)) + 1)
		turned := impl.VecNeg(v)
		sum, ok := impl.VecAdd(v, turned)
		if !ok || !slices.Equal(sum, make([]int64, len(v))) {
			t.Fatal(v, turned)
		}
		if !slices.Equal(impl.VecNeg(turned), v) {
			t.Fatal("turned twice", v)
		}
	}
	for _, v := range wrongVectors() {
		if got := impl.VecNeg(v); len(got) != 0 {
			t.Error(v, got)
		}
	}
}

func TestPromise15VectorsLeaveArgumentsAlone(t *testing.T) {
	a, b := []int64{1, -2, 3}, []int64{4, 5, -6}
	for _, call := range []func(v, w []int64) []int64{
		func(v, w []int64) []int64 { return []int64{impl.DistOf(v, w)} },
		func(v, w []int64) []int64 { impl.VecText(v); impl.VecOk(w); return nil },
		func(v, w []int64) []int64 { sum, _ := impl.VecAdd(v, w); return sum },
		func(v, w []int64) []int64 { return impl.VecNeg(v) },
		func(v, w []int64) []int64 { sum, _ := impl.VecAdd(v, []int64{0, 0, 0}); return sum },
	} {
		v, w := roomy(a), roomy(b)
		first := call(v, w)
		kept := slices.Clone(first)
		spoil(first)
		if !untouched(v, a) || !untouched(w, b) {
			t.Error("an argument is changed", v[:cap(v)], w[:cap(w)])
		}
		if again := call(v, w); !slices.Equal(again, kept) {
			t.Error("another answer the second time", kept, again)
		}
	}
}
