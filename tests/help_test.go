package tests

import (
	"slices"
	"testing"

	"loop.example/g00707/impl"
)

// dice is a fixed sequence: a test that fails fails again.
type dice struct{ state uint64 }

func (d *dice) upTo(n int64) int64 {
	d.state = d.state*6364136223846793005 + 1442695040888963407
	return int64((d.state >> 33) % uint64(n))
}

// number is often small or near to an end, where faults sit.
func (d *dice) number() int64 {
	switch d.upTo(4) {
	case 0:
		return d.upTo(5) - 2
	case 1:
		return impl.MaxComp - d.upTo(2)
	case 2:
		return d.upTo(2) - impl.MaxComp
	}
	return d.upTo(2*impl.MaxComp+1) - impl.MaxComp
}

func (d *dice) vector(dim int) []int64 {
	v := make([]int64, dim)
	for i := range v {
		v[i] = d.number()
	}
	return v
}

func (d *dice) vectors(count int, dim int) [][]int64 {
	l := make([][]int64, count)
	for i := range l {
		l[i] = d.vector(dim)
	}
	return l
}

// roomy has the same numbers, and marks in the spare room behind them.
func roomy(v []int64) []int64 {
	wide := make([]int64, len(v)+4)
	copy(wide, v)
	for i := len(v); i < len(wide); i++ {
		wide[i] = 77
	}
	return wide[:len(v)]
}

// untouched tells whether a roomy list is as it was made of v.
func untouched(roomed []int64, v []int64) bool {
	return slices.Equal(roomed[:cap(roomed)], append(slices.Clone(v), 77, 77, 77, 77))
}

// spoil writes over an answer, as far as it reaches.
func spoil(v []int64) {
	v = v[:cap(v)]
	for i := range v {
		v[i] = -99
	}
}

func wrongVectors() [][]int64 {
	const top, low = 1<<63 - 1, -1 << 63
	return [][]int64{
		nil,
		{},
		make([]int64, impl.MaxDim+1),
		make([]int64, 100),
		{impl.MaxComp + 1},
		{-impl.MaxComp - 1},
		{0, 0, impl.MaxComp + 1},
		{1, 2, 3, 4, 5, 6, 7, -impl.MaxComp - 1},
		{top},
		{low},
		{low, top},
	}
}

func edgeVectors() [][]int64 {
	l := [][]int64{{0}, {1}, {-1}, {impl.MaxComp}, {-impl.MaxComp}, {impl.MaxComp, -impl.MaxComp}}
	for _, x := range []int64{0, 7, -7, impl.MaxComp, -impl.MaxComp} {
		l = append(l, slices.Repeat([]int64{x}, impl.MaxDim))
	}
	return l
}

// bend leaves a byte out, puts one in, turns or doubles one, at any place.
func (d *dice) bend(s string, bytes string) string {
	for range 1 + d.upTo(2) {
		at := int(d.upTo(int64(len(s))))
		one := bytes[d.upTo(int64(len(bytes))):][:1]
		s = []string{s[:at] + s[at+1:], s[:at] + one + s[at:], s[:at] + one + s[at+1:], s + one, s[:at+1] + s[at:]}[d.upTo(5)]
		if s == "" {
			break
		}
	}
	return s
}

func TestHelpers(t *testing.T) {
	v := []int64{1, 2}
	r := roomy(v)
	if !untouched(r, v) {
		t.Error("a new roomy list is as it was made")
	}
	_ = append(r, 5)
	if untouched(r, v) {
		t.Error("what is written behind a list is seen")
	}
}
