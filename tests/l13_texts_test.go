package tests

import (
	"regexp"
	"slices"
	"strconv"
	"strings"
	"testing"

	"loop.example/g00707/impl"
)

// decimal is the document's words: no noughts ahead, sixteen digits at most.
const decimal = "(0|-?[1-9][0-9]{0,15})"

func itemAsTold(i impl.Item) bool {
	return 1 <= i.Id && i.Id <= 9999 && 0 <= i.Tags && i.Tags <= 255 && impl.VecOk(i.Vec)
}

func itemTextAsTold(i impl.Item) string {
	if !itemAsTold(i) {
		return ""
	}
	parts := []string{}
	for _, x := range i.Vec {
		parts = append(parts, strconv.FormatInt(x, 10))
	}
	return strconv.FormatInt(i.Id, 10) + " " + strconv.FormatInt(i.Tags, 10) + " " + strings.Join(parts, ",")
}

func hitAsTold(h impl.Hit) bool {
	return 1 <= h.Id && h.Id <= 9999 && 0 <= h.Low && h.Low <= h.High && h.High <= 1<<50
}

func hitTextAsTold(h impl.Hit) string {
	id, low, high := strconv.FormatInt(h.Id, 10), strconv.FormatInt(h.Low, 10), strconv.FormatInt(h.High, 10)
	switch {
	case !hitAsTold(h):
		return ""
	case low == high:
		return id + ":" + low
	}
	return id + ":" + low + ".." + high
}

func foundTextAsTold(f impl.Found) string {
	s := "open "
	if f.Exact {
		s = "exact "
	}
	s += strconv.FormatInt(f.Reads, 10) + " left"
	for _, x := range f.Left {
		s += " " + strconv.FormatInt(x, 10)
	}
	s += " hits"
	for _, h := range f.Hits {
		s += " " + hitTextAsTold(h)
	}
	return s
}

var itemPattern = regexp.MustCompile(`\A` + decimal + " " + decimal + " ([-0-9,]+)" + `\z`)

func readItemAsTold(s string) (impl.Item, bool) {
	found := itemPattern.FindStringSubmatch(s)
	if found == nil {
		return impl.Item{}, false
	}
	i := impl.Item{}
	i.Id, _ = strconv.ParseInt(found[1], 10, 64)
	i.Tags, _ = strconv.ParseInt(found[2], 10, 64)
	i.Vec, _ = impl.ReadVec(found[3])
	if !itemAsTold(i) {
		return impl.Item{}, false
	}
	return i, true
}

var hitPattern = regexp.MustCompile(`\A` + decimal + ":" + decimal + `(?:\.\.` + decimal + `)?\z`)

func readHitAsTold(s string) (impl.Hit, bool) {
	found := hitPattern.FindStringSubmatch(s)
	if found == nil || found[2] == found[3] {
		return impl.Hit{}, false
	}
	h := impl.Hit{}
	h.Id, _ = strconv.ParseInt(found[1], 10, 64)
	h.Low, _ = strconv.ParseInt(found[2], 10, 64)
	h.High = h.Low
	if found[3] != "" {
		h.High, _ = strconv.ParseInt(found[3], 10, 64)
	}
	if !hitAsTold(h) {
		return impl.Hit{}, false
	}
	return h, true
}

func edgeItems() []impl.Item {
	l := []impl.Item{}
	for _, id := range []int64{1, 2, 10, 9998, 9999} {
		for _, tags := range []int64{0, 1, 10, 254, 255} {
			for _, v := range edgeVectors() {
				l = append(l, impl.Item{Id: id, Tags: tags, Vec: v})
			}
		}
	}
	return l
}

// edgeHits are all pairs of bounds at the ends of what they may be.
func edgeHits() []impl.Hit {
	some := []int64{0, 1, 2, 9, 10, 11, 100, impl.MaxDist - 1, impl.MaxDist}
	l := []impl.Hit{}
	for _, id := range []int64{1, 2, 10, 9998, 9999} {
		for at, low := range some {
			for _, high := range some[at:] {
				l = append(l, impl.Hit{Id: id, Low: low, High: high})
			}
		}
	}
	return l
}

// wrongHits are none, each by one thing alone.
func wrongHits() []impl.Hit {
	const top, low = 1<<63 - 1, -1 << 63
	l := []impl.Hit{{}, {Low: 1, High: 2}}
	for _, id := range wrongIds() {
		l = append(l, impl.Hit{Id: id}, impl.Hit{Id: id, Low: 4, High: 9}, impl.Hit{Id: id, Low: 4, High: 4})
	}
	for _, b := range [][2]int64{
		{-1, 0}, {-1, -1}, {-1, 5}, {-9, impl.MaxDist}, {low, 0}, {low, low}, {low, top},
		{1, 0}, {5, 4}, {impl.MaxDist, 0}, {impl.MaxDist, impl.MaxDist - 1}, {0, -1}, {0, low},
		{0, impl.MaxDist + 1}, {4, impl.MaxDist + 1}, {impl.MaxDist, impl.MaxDist + 1}, {impl.MaxDist + 1, impl.MaxDist + 1}, {impl.MaxDist + 1, impl.MaxDist}, {0, top}, {top, top},
	} {
		l = append(l, impl.Hit{Id: 7, Low: b[0], High: b[1]})
	}
	return l
}

func holdsReadItem(t *testing.T, s string) {
	t.Helper()
	want, is := readItemAsTold(s)
	if got, ok := impl.ReadItem(s); ok != is || !sameItem(got, want) || is && impl.ItemText(got) != s {
		t.Fatalf("%q is read as %v %v, not as %v %v", s, got, ok, want, is)
	}
}

func holdsReadHit(t *testing.T, s string) {
	t.Helper()
	want, is := readHitAsTold(s)
	if got, ok := impl.ReadHit(s); ok != is || got != want || is && impl.HitText(got) != s {
		t.Fatalf("%q is read as %v %v, not as %v %v", s, got, ok, want, is)
	}
}

func TestPromise13ItemComesBackFromItsText(t *testing.T) {
	back := func(i impl.Item) {
		t.Helper()
		s := impl.ItemText(i)
		if got, ok := impl.ReadItem(s); s != itemTextAsTold(i) || !ok || !sameItem(got, i) {
			t.Fatal(i, s, got, ok)
		}
	}
	for _, i := range edgeItems() {
		back(i)
	}
	d := &dice{131}
	for range 5000 {
		back(d.item(1+d.upTo(9999), 1+int(d.upTo(impl.MaxDim))))
	}
}

func TestPromise13HitComesBackFromItsText(t *testing.T) {
	back := func(h impl.Hit) {
		t.Helper()
		s := impl.HitText(h)
		if got, ok := impl.ReadHit(s); s != hitTextAsTold(h) || !ok || got != h {
			t.Fatal(h, s, got, ok)
		}
	}
	for _, h := range edgeHits() {
		back(h)
	}
	d := &dice{132}
	for range 5000 {
		far := []int64{5, 1000, impl.MaxDist}[d.upTo(3)]
		low := d.upTo(far + 1)
		back(impl.Hit{Id: 1 + d.upTo(9999), Low: low, High: low + d.upTo(far-low+1)})
	}
}

func TestItemTexts(t *testing.T) {
	for s, want := range map[string]impl.Item{
		"1 0 0":                  {Id: 1, Vec: []int64{0}},
		"7 3 -1,5":               {Id: 7, Tags: 3, Vec: []int64{-1, 5}},
		"9999 255 1048576":       {Id: 9999, Tags: 255, Vec: []int64{1048576}},
		"10 100 1,2,3,4,5,6,7,8": {Id: 10, Tags: 100, Vec: []int64{1, 2, 3, 4, 5, 6, 7, 8}},
		"5 0 -1048576,0":         {Id: 5, Vec: []int64{-1048576, 0}},
	} {
		if i, ok := impl.ReadItem(s); !ok || !sameItem(i, want) || impl.ItemText(want) != s {
			t.Error(s, i, ok, impl.ItemText(want))
		}
	}
}

func TestItemTextOfNone(t *testing.T) {
	for dim := 1; dim <= impl.MaxDim; dim++ {
		for _, i := range wrongItems(dim, 5) {
			if s := impl.ItemText(i); s != itemTextAsTold(i) {
				t.Error(i, s)
			}
		}
	}
	v := []int64{1}
	for _, i := range []impl.Item{{}, {Vec: v}, {Id: -1, Vec: v}, {Id: 10000, Vec: v}, {Id: 1, Tags: -1, Vec: v}, {Id: 1, Tags: 256, Vec: v}, {Id: 1}, {Id: 1, Vec: []int64{}}, {Id: 1, Vec: make([]int64, 9)}, {Id: 1, Vec: []int64{0, impl.MaxComp + 1}}} {
		if s := impl.ItemText(i); s != "" {
			t.Error(i, s)
		}
	}
}

func TestReadItemWrong(t *testing.T) {
	for _, s := range []string{
		"", " ", "  ", "\n", "1", "1 ", "1 2", "1 2 ", " 1 2", "1  2", "x", "x y z", "1 2 x", "x 2 3", "1 x 3", ",", "1,2,3", "1 2,3",
		" 1 2 3", "1 2 3 ", "1  2 3", "1 2  3", "1 2 3  ", "  1 2 3", "1 2 3 4", "1 2 3\n", "\t1 2 3", "1\t2 3", "1 2\t3", "1 2 3\r", "1 2\u00a03", "1\u20032 3",
		"01 1 5", "1 01 5", "1 1 05", "00 1 5", "1 00 5", "1 1 00", "0001 1 5", "1 1 1,05", "1 1 01,5",
		"-1 1 5", "1 -1 5", "-0 1 5", "1 -0 5", "1 1 -0", "1 1 -", "1 1 --5", "1 1 5-", "- 1 5", "1 - 5", "1 1 1,-0", "+1 1 5", "1 +1 5", "1 1 +5",
		"0 1 5", "10000 1 5", "9999999999999999 1 5", "1 256 5", "1 1000 5", "1 9999999999999999 5", "10000000000000000 1 5", "18446744073709551617 1 5", "1 18446744073709551616 5",
		"1 1 ,", "1 1 5,", "1 1 ,5", "1 1 5,,6", "1 1 5, 6", "1 1 5 ,6", "1 1 1048577", "1 1 -1048577", "1 1 1,2,3,4,5,6,7,8,9", "1 1 1.0", "1.0 1 5", "1 1 0x5", "1 1 1_0", "1 1 5:", "1:1 5",
		"\xff1 1 5", "1\xff 1 5", "1 \xff1 5", "1 1\xff 5", "1 1 \xff5", "1 1 5\xff", "1\xa01 5", "1 1\xc2 5", "\xff", "\xff \xff \xff", "1 1 5\x00", "１ 1 5", "1 １ 5", "1 1 ５", "\ufeff1 1 5", "1 1 \ufffd", "\ufffd 1 5",
		strings.Repeat(" ", 100000), strings.Repeat("1 ", 100000), strings.Repeat("0", 100000) + "1 1 5", "1 1 " + strings.Repeat("5,", 100000) + "5", strings.Repeat("\xff", 100000),
	} {
		if i, ok := impl.ReadItem(s); ok || !sameItem(i, impl.Item{}) || i.Vec != nil {
			t.Errorf("%.40q is read as %v %v", s, i, ok)
		}
	}
}

func TestHitTexts(t *testing.T) {
	for s, want := range map[string]impl.Hit{
		"1:0":                                   {Id: 1},
		"7:4..9":                                {Id: 7, Low: 4, High: 9},
		"9999:4":                                {Id: 9999, Low: 4, High: 4},
		"5:0..1":                                {Id: 5, High: 1},
		"5:0..1125899906842624":                 {Id: 5, High: impl.MaxDist},
		"5:1125899906842624":                    {Id: 5, Low: impl.MaxDist, High: impl.MaxDist},
		"10:1125899906842623..1125899906842624": {Id: 10, Low: impl.MaxDist - 1, High: impl.MaxDist},
		"9998:1000000000000000..1000000000000001": {Id: 9998, Low: 1000000000000000, High: 1000000000000001},
	} {
		if h, ok := impl.ReadHit(s); !ok || h != want || impl.HitText(want) != s {
			t.Error(s, h, ok, impl.HitText(want))
		}
	}
}

func TestHitTextOfNone(t *testing.T) {
	for _, h := range wrongHits() {
		if s := impl.HitText(h); s != "" {
			t.Error(h, s)
		}
	}
}

func TestReadHitWrong(t *testing.T) {
	for _, s := range []string{
		"", " ", "\n", "1", ":", "..", ":..", "1:", ":1", "1:..", "1:..5", "1:5..", "1:5.", "1:.5", ":4..9", "4..9", "x", "x:1", "1:x", "1:x..5", "1:5..x",
		"1:5..5", "1:0..0", "1:1125899906842624..1125899906842624", "1:5..4", "1:1..0", "1:10..9", "1:1125899906842624..0",
		"1:5.6", "1:5...6", "1:5....6", "1:5.1.6", "1:5..6..7", "1:5..6.", "1:5..6..", "1:.5..6", "1:5..6:7", "1:5:6", "1::5", "1::5..6", "1.5:6", "1..5", "1..5:6", "1:5,6", "1;5..6",
		"0:5", "0:5..6", "10000:5", "10000:5..6", "-1:5", "9999999999999999:5", "18446744073709551617:5",
		"1:-1", "1:-1..5", "1:-5..-1", "1:5..-1", "1:-0", "1:-0..5", "1:0..-0", "1:-", "1:-..5", "1:5..-", "-:5", "-0:5", "+1:5", "1:+5", "1:5..+6",
		"01:5", "1:05", "1:05..6", "1:5..06", "1:00", "00:5", "1:00..5", "1:5..0006",
		"1:1125899906842625", "1:0..1125899906842625", "1:1125899906842624..1125899906842625", "1:9999999999999999", "1:10000000000000000", "1:0..10000000000000000", "1:18446744073709551616", "1:0..18446744073709551617",
		" 1:5", "1:5 ", "1 :5", "1: 5", "1:5 ..6", "1:5.. 6", "1:5. .6", "1:5..6 ", " 1:5..6", "1:5\n", "1:5..6\n", "\t1:5", "1:5\r", "1:5\u00a0",
		"\xff1:5", "1\xff:5", "1:\xff5", "1:5\xff", "1:5\xff..6", "1:5.\xff.6", "1:5..\xff6", "1:5..6\xff", "\xff", "\xff:\xff..\xff", "1\xba5", "1:5\xae\xae6", "1:5\x00", "１:5", "1：5", "1:５", "1:5．．6", "1:5‥6", "1:5…6", "\ufffd:5", "1:\ufffd",
		strings.Repeat(":", 100000), strings.Repeat(".", 100000), "1:" + strings.Repeat("0", 100000), "1:5" + strings.Repeat(".", 100000) + "6", strings.Repeat("\xff", 100000),
	} {
		if h, ok := impl.ReadHit(s); ok || h != (impl.Hit{}) {
			t.Errorf("%.40q is read as %v %v", s, h, ok)
		}
	}
}

// eachShort hands on all texts of these bytes, up to so many of them.
func eachShort(bytes string, most int, try func(s string)) {
	last := []string{""}
	try("")
	for range most {
		next := []string{}
		for _, s := range last {
			for at := range len(bytes) {
				next = append(next, s+bytes[at:at+1])
			}
		}
		for _, s := range next {
			try(s)
		}
		last = next
	}
}

func TestReadItemAndHitOfAllShortTexts(t *testing.T) {
	items, hits := 0, 0
	eachShort("01 ,-", 7, func(s string) {
		holdsReadItem(t, s)
		if _, ok := impl.ReadItem(s); ok {
			items++
		}
	})
	eachShort("012:.", 7, func(s string) {
		holdsReadHit(t, s)
		if _, ok := impl.ReadHit(s); ok {
			hits++
		}
	})
	if items < 50 || hits < 500 {
		t.Error("too few are right", items, hits)
	}
}

func TestReadItemAndHitOfBentTexts(t *testing.T) {
	d := &dice{133}
	items, hits := edgeItems(), edgeHits()
	for range 20000 {
		holdsReadItem(t, d.bend(impl.ItemText(items[d.upTo(int64(len(items)))]), "  0011289-+,.:x\n\t\x00\xff"))
		holdsReadHit(t, d.bend(impl.HitText(hits[d.upTo(int64(len(hits)))]), "::..0011289-+, x\n\x00\xff"))
	}
}

func TestFoundTexts(t *testing.T) {
	const top, low = 1<<63 - 1, -1 << 63
	none := impl.Hit{Id: 1, Low: 5, High: 4}
	for _, r := range []struct {
		f impl.Found
		s string
	}{
		{impl.Found{}, "open 0 left hits"},
		{impl.Found{Hits: []impl.Hit{}, Left: []int64{}}, "open 0 left hits"},
		{impl.Found{Exact: true}, "exact 0 left hits"},
		{impl.Found{Exact: true, Left: []int64{0, 0, 0}}, "exact 0 left 0 0 0 hits"},
		{impl.Found{Reads: 2, Left: []int64{9, 4, 4}}, "open 2 left 9 4 4 hits"},
		{impl.Found{Exact: true, Reads: 3, Left: []int64{5, 2, 1}, Hits: []impl.Hit{{Id: 7, Low: 4, High: 9}}}, "exact 3 left 5 2 1 hits 7:4..9"},
		{impl.Found{Reads: 60, Left: []int64{60, 60, 60}, Hits: []impl.Hit{{Id: 1}, {Id: 9999, Low: 4, High: 4}, {Id: 2, High: impl.MaxDist}}}, "open 60 left 60 60 60 hits 1:0 9999:4 2:0..1125899906842624"},
		{impl.Found{Hits: []impl.Hit{{Id: 2}, {Id: 1}, {Id: 2}}}, "open 0 left hits 2:0 1:0 2:0"},
		{impl.Found{Reads: -1, Left: []int64{-5}}, "open -1 left -5 hits"},
		{impl.Found{Reads: top, Left: []int64{low, top, 1, 2}}, "open 9223372036854775807 left -9223372036854775808 9223372036854775807 1 2 hits"},
		{impl.Found{Hits: []impl.Hit{none}}, "open 0 left hits "},
		{impl.Found{Hits: []impl.Hit{none, none}}, "open 0 left hits  "},
		{impl.Found{Hits: []impl.Hit{{Id: 1}, {}, {Id: 2}}}, "open 0 left hits 1:0  2:0"},
		{impl.Found{Exact: true, Left: []int64{3}, Hits: []impl.Hit{none, {Id: 2}}}, "exact 0 left 3 hits  2:0"},
	} {
		if s := impl.FoundText(r.f); s != r.s || s != foundTextAsTold(r.f) {
			t.Errorf("%v: %q, not %q", r.f, s, r.s)
		}
	}
	for _, h := range wrongHits() {
		if s := impl.FoundText(impl.Found{Hits: []impl.Hit{h, {Id: 5}}}); s != "open 0 left hits  5:0" {
			t.Error(h, s)
		}
	}
}

// readFound goes by the words of a text of three numbers left; each hit is
// read back by ReadHit.
func readFound(t *testing.T, s string) impl.Found {
	t.Helper()
	words := strings.Split(s, " ")
	if len(words) < 7 || words[2] != "left" || words[6] != "hits" || words[0] != "exact" && words[0] != "open" {
		t.Fatal(s)
	}
	f := impl.Found{Exact: words[0] == "exact"}
	f.Reads, _ = strconv.ParseInt(words[1], 10, 64)
	for _, word := range words[3:6] {
		x, _ := strconv.ParseInt(word, 10, 64)
		f.Left = append(f.Left, x)
	}
	for _, word := range words[7:] {
		h, ok := impl.ReadHit(word)
		if !ok {
			t.Fatal("a hit is not read", s, word)
		}
		f.Hits = append(f.Hits, h)
	}
	return f
}

func TestPromise13WhatWasFoundComesBackHitByHit(t *testing.T) {
	open := 0
	tryLists(134, 2, impl.MaxCmds, func(d *dice, p plan, list []impl.Cmd) {
		_, answers := impl.Play(list)
		for at, a := range answers {
			if !asks(list[at]) || a.Code != impl.VbOk {
				continue
			}
			s := impl.FoundText(a.Found)
			if s != foundTextAsTold(a.Found) || !sameFound(readFound(t, s), a.Found) {
				t.Fatal(a.Found, s)
			}
			if !a.Found.Exact && len(a.Found.Hits) > 0 {
				open++
			}
		}
	})
	if open < 50 {
		t.Error("too few were open", open)
	}
}

func TestPromise15TextsLeaveArgumentsAlone(t *testing.T) {
	for _, v := range edgeVectors() {
		i := impl.Item{Id: 5, Tags: 3, Vec: roomy(v)}
		first := impl.ItemText(i)
		if impl.ItemText(i) != first || !untouched(i.Vec, v) {
			t.Error("an argument is changed", i)
		}
		one, _ := impl.ReadItem(first)
		two, _ := impl.ReadItem(first)
		spoil(one.Vec)
		if three, ok := impl.ReadItem(first); !ok || !slices.Equal(two.Vec, v) || !slices.Equal(three.Vec, v) {
			t.Error("two answers share memory", two, three)
		}
	}
	hits := []impl.Hit{{Id: 3, Low: 1, High: 2}, {}, {Id: 1}, {Id: 77, Low: 77}}
	left := []int64{5, 4, 3}
	f := impl.Found{Hits: slices.Clone(hits)[:3], Left: roomy(left)}
	first := impl.FoundText(f)
	if first != "open 0 left 5 4 3 hits 3:1..2  1:0" || impl.FoundText(f) != first {
		t.Error(first)
	}
	if !slices.Equal(f.Hits[:4], hits) || !untouched(f.Left, left) {
		t.Error("an argument is changed", f)
	}
}
