package impl

import (
	"strconv"
	"strings"
)

const (
	MaxDim  = 8
	MaxComp = 1048576
)

// maxDigits bounds what is read in decimal, so that no text comes near to
// where an int64 would wrap.
const maxDigits = 16

// vector is n numbers with noughts behind them: two of one length are the
// same just when their arrays are, and the noughts add nothing to a distance.
type vector struct {
	at [MaxDim]int64
	n  int
}

func VecOk(v []int64) bool {
	_, ok := vectorOf(v)
	return ok
}

func DistOf(a []int64, b []int64) int64 {
	v, w, ok := vectorsOf(a, b)
	if !ok {
		return -1
	}
	return v.distTo(w)
}

func VecText(v []int64) string {
	if !VecOk(v) {
		return ""
	}
	words := make([]string, len(v))
	for i, x := range v {
		words[i] = numberText(x)
	}
	return strings.Join(words, ",")
}

func ReadVec(s string) ([]int64, bool) {
	// One part more than a vector may have is enough to refuse by.
	parts := strings.SplitN(s, ",", MaxDim+1)
	out := make([]int64, len(parts))
	for i, part := range parts {
		x, ok := readNumber(part)
		if !ok {
			return nil, false
		}
		out[i] = x
	}
	if !VecOk(out) {
		return nil, false
	}
	return out, true
}

func VecAdd(a []int64, b []int64) ([]int64, bool) {
	v, w, ok := vectorsOf(a, b)
	if !ok {
		return nil, false
	}
	sums := v.plus(w).list()
	if !VecOk(sums) {
		return nil, false
	}
	return sums, true
}

func VecNeg(a []int64) []int64 {
	v, ok := vectorOf(a)
	if !ok {
		return nil
	}
	return v.turned().list()
}

func vectorOf(l []int64) (vector, bool) {
	if len(l) < 1 || len(l) > MaxDim {
		return vector{}, false
	}
	v := vector{n: len(l)}
	for i, x := range l {
		if !compOk(x) {
			return vector{}, false
		}
		v.at[i] = x
	}
	return v, true
}

func vectorsOf(a []int64, b []int64) (vector, vector, bool) {
	v, isV := vectorOf(a)
	w, isW := vectorOf(b)
	if !isV || !isW || v.n != w.n {
		return vector{}, vector{}, false
	}
	return v, w, true
}

// compOk holds x against both ends: the least int64 has no number to turn to.
func compOk(x int64) bool {
	return -MaxComp <= x && x <= MaxComp
}

func (v vector) list() []int64 {
	out := make([]int64, v.n)
	copy(out, v.at[:v.n])
	return out
}

func (v vector) distTo(w vector) int64 {
	if v.at == w.at {
		return 0
	}
	sum := int64(0)
	for i, x := range v.at {
		d := x - w.at[i]
		sum += d * d
	}
	return sum
}

func (v vector) plus(w vector) vector {
	for i, x := range w.at {
		v.at[i] += x
	}
	return v
}

func (v vector) turned() vector {
	for i, x := range v.at {
		v.at[i] = -x
	}
	return v
}

func numberText(x int64) string {
	return strconv.FormatInt(x, 10)
}

// readNumber reads what is in decimal. Telling the number again refuses all
// that ParseInt takes beside it: a plus, noughts ahead, -0.
func readNumber(s string) (int64, bool) {
	if len(strings.TrimPrefix(s, "-")) > maxDigits {
		return 0, false
	}
	x, err := strconv.ParseInt(s, 10, 64)
	if err != nil || numberText(x) != s {
		return 0, false
	}
	return x, true
}
