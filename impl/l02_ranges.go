package impl

const MaxItems = 60

type Range struct {
	Lo int64
	Hi int64
}

func RangeOk(r Range) bool {
	return r.right()
}

func RangeHas(r Range, x int64) bool {
	return r.right() && r.spans(x)
}

func RangeLeq(a Range, b Range) bool {
	return a.right() && b.right() && b.spans(a.Lo) && b.spans(a.Hi)
}

func RangeJoin(a Range, b Range) Range {
	r, _ := ofBoth(a, b, Range.join)
	return r
}

func RangesOf(l [][]int64) ([]Range, bool) {
	if len(l) < 1 || len(l) > MaxItems || !vectorsAlike(l) {
		return nil, false
	}
	out := make([]Range, len(l[0]))
	for place := range out {
		out[place] = rangeAt(l, place)
	}
	return out, true
}

func RangeMeet(a Range, b Range) (Range, bool) {
	return ofBoth(a, b, Range.meet)
}

func (r Range) right() bool {
	return compOk(r.Lo) && compOk(r.Hi) && r.Lo <= r.Hi
}

func (r Range) spans(x int64) bool {
	return r.Lo <= x && x <= r.Hi
}

func (r Range) join(s Range) Range {
	return Range{Lo: min(r.Lo, s.Lo), Hi: max(r.Hi, s.Hi)}
}

func (r Range) meet(s Range) Range {
	return Range{Lo: max(r.Lo, s.Lo), Hi: min(r.Hi, s.Hi)}
}

// ofBoth asks of what comes that it is right, too: a meet of nothing is not.
func ofBoth(a Range, b Range, lay func(Range, Range) Range) (Range, bool) {
	if !a.right() || !b.right() {
		return Range{}, false
	}
	r := lay(a, b)
	if !r.right() {
		return Range{}, false
	}
	return r, true
}

func vectorsAlike(l [][]int64) bool {
	for _, v := range l {
		if !VecOk(v) || len(v) != len(l[0]) {
			return false
		}
	}
	return true
}

func rangeAt(l [][]int64, place int) Range {
	r := Range{Lo: l[0][place], Hi: l[0][place]}
	for _, v := range l {
		r = r.join(Range{Lo: v[place], Hi: v[place]})
	}
	return r
}
