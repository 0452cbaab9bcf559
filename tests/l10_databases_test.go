package tests

import (
	"regexp"
	"slices"
	"strconv"
	"strings"
	"testing"

	"loop.example/g00707/impl"
)

var allKinds = []int64{impl.CmDim, impl.CmPut, impl.CmDrop, impl.CmBuild, impl.CmTick, impl.CmNear, impl.CmWithin}

func namesVec(kind int64) bool {
	return kind == impl.CmPut || kind == impl.CmNear || kind == impl.CmWithin
}

func asks(c impl.Cmd) bool {
	return c.Kind == impl.CmNear || c.Kind == impl.CmWithin
}

func countsRanges(c impl.Cmd) bool {
	return c.Kind == impl.CmBuild || c.Kind == impl.CmTick
}

// cmdAsTold is the document's table of commands, row by row.
func cmdAsTold(c impl.Cmd) bool {
	from := func(least int64, x int64, most int64) bool { return least <= x && x <= most }
	switch c.Kind {
	case impl.CmDim:
		return from(1, c.A, 8) && c.B == 0 && c.C == 0 && len(c.Vec) == 0
	case impl.CmPut:
		return from(1, c.A, 9999) && from(0, c.B, 255) && c.C == 0 && impl.VecOk(c.Vec)
	case impl.CmDrop:
		return from(1, c.A, 9999) && c.B == 0 && c.C == 0 && len(c.Vec) == 0
	case impl.CmBuild:
		return c.A == 0 && c.B == 0 && c.C == 0 && len(c.Vec) == 0
	case impl.CmTick:
		return from(1, c.A, 60) && c.B == 0 && c.C == 0 && len(c.Vec) == 0
	case impl.CmNear:
		return from(1, c.A, 20) && from(0, c.B, 255) && from(0, c.C, 1000) && impl.VecOk(c.Vec)
	case impl.CmWithin:
		return from(0, c.A, 1<<50) && from(0, c.B, 255) && from(0, c.C, 1000) && impl.VecOk(c.Vec)
	}
	return false
}

func textAsTold(c impl.Cmd) string {
	number := func(x int64) string { return " " + strconv.FormatInt(x, 10) }
	parts := []string{}
	for _, x := range c.Vec {
		parts = append(parts, strconv.FormatInt(x, 10))
	}
	vec := " " + strings.Join(parts, ",")
	switch c.Kind {
	case impl.CmDim:
		return "dim" + number(c.A)
	case impl.CmPut:
		return "put" + number(c.A) + number(c.B) + vec
	case impl.CmDrop:
		return "drop" + number(c.A)
	case impl.CmBuild:
		return "build"
	case impl.CmTick:
		return "tick" + number(c.A)
	case impl.CmNear:
		return "near" + number(c.A) + number(c.B) + number(c.C) + vec
	}
	return "within" + number(c.A) + number(c.B) + number(c.C) + vec
}

// edgeCmds are commands of each kind at the ends of what A, B and C may be,
// with vectors at the ends of what they may be.
func edgeCmds() []impl.Cmd {
	l := []impl.Cmd{{Kind: impl.CmBuild}}
	for _, a := range []int64{1, 2, impl.MaxDim - 1, impl.MaxDim} {
		l = append(l, impl.Cmd{Kind: impl.CmDim, A: a})
	}
	for _, a := range []int64{1, 2, impl.MaxItems - 1, impl.MaxItems} {
		l = append(l, impl.Cmd{Kind: impl.CmTick, A: a})
	}
	for _, a := range []int64{1, 2, 9998, 9999} {
		l = append(l, impl.Cmd{Kind: impl.CmDrop, A: a})
		for _, b := range []int64{0, 1, 254, 255} {
			for _, v := range edgeVectors() {
				l = append(l, impl.Cmd{Kind: impl.CmPut, A: a, B: b, Vec: v})
			}
		}
	}
	for _, b := range []int64{0, 1, 254, 255} {
		for _, c := range []int64{0, 1, 999, 1000} {
			for _, v := range edgeVectors() {
				for _, a := range []int64{1, 2, impl.MaxK - 1, impl.MaxK} {
					l = append(l, impl.Cmd{Kind: impl.CmNear, A: a, B: b, C: c, Vec: v})
				}
				for _, a := range []int64{0, 1, impl.MaxDist - 1, impl.MaxDist} {
					l = append(l, impl.Cmd{Kind: impl.CmWithin, A: a, B: b, C: c, Vec: v})
				}
			}
		}
	}
	return l
}

// plainCmd is right, and has all that its kind names above 0.
func plainCmd(kind int64) impl.Cmd {
	switch kind {
	case impl.CmBuild:
		return impl.Cmd{Kind: kind}
	case impl.CmPut:
		return impl.Cmd{Kind: kind, A: 1, B: 1, Vec: []int64{1}}
	case impl.CmNear, impl.CmWithin:
		return impl.Cmd{Kind: kind, A: 1, B: 1, C: 1, Vec: []int64{1}}
	}
	return impl.Cmd{Kind: kind, A: 1}
}

// wrongCmds are not so, each by one thing alone.
func wrongCmds() []impl.Cmd {
	const top, low = 1<<63 - 1, -1 << 63
	l := []impl.Cmd{}
	for _, kind := range []int64{low, -1, 0, 8, 9, 1<<32 + 1, top} {
		l = append(l, impl.Cmd{Kind: kind}, impl.Cmd{Kind: kind, A: 1}, impl.Cmd{Kind: kind, A: 1, B: 1, C: 1, Vec: []int64{1}})
	}
	mostOfA := []int64{impl.MaxDim, 9999, 9999, 0, impl.MaxItems, impl.MaxK, impl.MaxDist}
	for at, kind := range allKinds {
		set := func(turn func(c *impl.Cmd)) {
			c := plainCmd(kind)
			turn(&c)
			l = append(l, c)
		}
		for _, x := range []int64{low, -1, mostOfA[at] + 1, top} {
			set(func(c *impl.Cmd) { c.A = x })
		}
		if kind != impl.CmBuild && kind != impl.CmWithin {
			set(func(c *impl.Cmd) { c.A = 0 })
		}
		for _, x := range []int64{low, -1, 256, 257, top} {
			set(func(c *impl.Cmd) { c.B = x })
		}
		for _, x := range []int64{low, -1, 1001, top} {
			set(func(c *impl.Cmd) { c.C = x })
		}
		if !namesVec(kind) {
			set(func(c *impl.Cmd) { c.B = 1 })
			for _, v := range edgeVectors() {
				set(func(c *impl.Cmd) { c.Vec = v })
			}
		}
		if !asks(plainCmd(kind)) {
			set(func(c *impl.Cmd) { c.C = 1 })
		}
		for _, v := range wrongVectors() {
			if namesVec(kind) || len(v) > 0 {
				set(func(c *impl.Cmd) { c.Vec = v })
			}
		}
	}
	return l
}

func sameCmd(a impl.Cmd, b impl.Cmd) bool {
	return a.Kind == b.Kind && a.A == b.A && a.B == b.B && a.C == b.C && slices.Equal(a.Vec, b.Vec)
}

func sameCmds(a []impl.Cmd, b []impl.Cmd) bool {
	return slices.EqualFunc(a, b, sameCmd)
}

func sameAnswer(a impl.Answer, b impl.Answer) bool {
	return a.Code == b.Code && sameFound(a.Found, b.Found)
}

func sameAnswers(a []impl.Answer, b []impl.Answer) bool {
	return slices.EqualFunc(a, b, sameAnswer)
}

func sameDb(a impl.Db, b impl.Db) bool {
	return a.Dim == b.Dim && slices.Equal(a.Old, b.Old) && slices.Equal(a.Fresh, b.Fresh) && a.Busy == b.Busy && sameEntries(a.Entries, b.Entries)
}

func cmdsOf(t *testing.T, texts ...string) []impl.Cmd {
	t.Helper()
	l := []impl.Cmd{}
	for _, s := range texts {
		c, ok := impl.ReadCmd(s)
		if !ok {
			t.Fatal("no command", s)
		}
		l = append(l, c)
	}
	return l
}

func codesOfAnswers(l []impl.Answer) []int64 {
	out := []int64{}
	for _, a := range l {
		out = append(out, a.Code)
	}
	return out
}

// toldDb is a database as the document's words have it: items put and dropped
// one by one, and for each id whether it is Fresh.
type toldDb struct {
	dim        int64
	old, fresh []impl.Range
	busy       bool
	items      []impl.Item
	isFresh    map[int64]bool
}

func (b *toldDb) shelf() shelf {
	flags := []bool{}
	for _, i := range b.items {
		flags = append(flags, b.isFresh[i.Id])
	}
	return shelf{old: b.old, fresh: b.fresh, items: b.items, flags: flags}
}

func (b *toldDb) db() impl.Db {
	return impl.Db{Dim: b.dim, Old: b.old, Fresh: b.fresh, Busy: b.busy, Entries: b.shelf().entries()}
}

// code is the first one of the row's that fits.
func (b *toldDb) code(c impl.Cmd) int64 {
	if !cmdAsTold(c) {
		return impl.VbForm
	}
	if c.Kind != impl.CmDim && (b.dim == 0 || namesVec(c.Kind) && int64(len(c.Vec)) != b.dim) {
		return impl.VbDim
	}
	there := hasId(b.items, c.A)
	switch {
	case c.Kind == impl.CmDim && b.dim != 0:
		return impl.VbDim
	case c.Kind == impl.CmPut && !there && len(b.items) == 60:
		return impl.VbFull
	case c.Kind == impl.CmDrop && !there:
		return impl.VbNone
	case c.Kind == impl.CmBuild && b.busy:
		return impl.VbBusy
	case c.Kind == impl.CmBuild && len(b.items) == 0:
		return impl.VbNone
	case c.Kind == impl.CmTick && !b.busy:
		return impl.VbNone
	}
	return impl.VbOk
}

func (b *toldDb) play(c impl.Cmd) impl.Answer {
	if code := b.code(c); code != impl.VbOk {
		return impl.Answer{Code: code}
	}
	switch c.Kind {
	case impl.CmDim:
		b.dim, b.old, b.fresh, b.isFresh = c.A, make([]impl.Range, c.A), make([]impl.Range, c.A), map[int64]bool{}
	case impl.CmPut:
		b.items = with(b.items, impl.Item{Id: c.A, Tags: c.B, Vec: c.Vec})
		b.isFresh[c.A] = b.busy
	case impl.CmDrop:
		b.items = without(b.items, c.A)
	case impl.CmBuild:
		b.fresh, b.busy = rangesAsTold(b.items), true
	case impl.CmTick:
		b.tick(c.A)
	case impl.CmNear:
		return impl.Answer{Found: b.shelf().cascade(c.Vec, c.A, c.B, c.C)}
	case impl.CmWithin:
		return impl.Answer{Found: b.shelf().within(c.Vec, c.A, c.B, c.C)}
	}
	return impl.Answer{}
}

func (b *toldDb) tick(count int64) {
	left := int64(0)
	for _, i := range b.items {
		if !b.isFresh[i.Id] && count > 0 {
			b.isFresh[i.Id] = true
			count--
		}
		if !b.isFresh[i.Id] {
			left++
		}
	}
	if left == 0 {
		b.old, b.busy, b.isFresh = b.fresh, false, map[int64]bool{}
	}
}

func rangesAsTold(l []impl.Item) []impl.Range {
	out := []impl.Range{}
	for place := range l[0].Vec {
		numbers := []int64{}
		for _, i := range l {
			numbers = append(numbers, i.Vec[place])
		}
		out = append(out, impl.Range{Lo: slices.Min(numbers), Hi: slices.Max(numbers)})
	}
	return out
}

func playAsTold(list []impl.Cmd) (impl.Db, []impl.Answer) {
	b := &toldDb{}
	answers := []impl.Answer{}
	for _, c := range list {
		answers = append(answers, b.play(c))
	}
	return b.db(), answers
}

// plan is what kind of commands a list has: its dim, of how many ids, how far
// the vectors lie, and how many of 100 are puts, drops, builds and ticks.
type plan struct {
	dim                       int
	ids                       int64
	far                       int64
	puts, drops, builds, tick int64
}

func plans() []plan {
	l := []plan{}
	for _, dim := range []int{1, 2, impl.MaxDim} {
		for _, far := range []int64{3, 1000, 0} {
			l = append(l,
				plan{dim, 5, far, 30, 20, 10, 20},
				plan{dim, 20, far, 45, 10, 8, 12},
				plan{dim, 100, far, 75, 2, 3, 5})
		}
	}
	return l
}

func (d *dice) vectorFar(p plan) []int64 {
	v := d.vector(p.dim)
	for place := range v {
		if p.far > 0 {
			v[place] = d.upTo(2*p.far+1) - p.far
		}
	}
	return v
}

// cmd is often right and sometimes not, in its form or where it stands.
func (d *dice) cmd(p plan) impl.Cmd {
	at := d.upTo(100)
	if d.upTo(20) == 0 {
		wrong := wrongCmds()
		return wrong[d.upTo(int64(len(wrong)))]
	}
	id := 1 + d.upTo(p.ids)
	v := d.vectorFar(p)
	if d.upTo(30) == 0 {
		v = d.vector(1 + int(d.upTo(impl.MaxDim)))
	}
	budget := []int64{0, 1, d.upTo(10), impl.MaxItems, 1000}[d.upTo(5)]
	mask := []int64{0, 0, 1, 2, 255}[d.upTo(5)]
	switch {
	case at < p.puts:
		return impl.Cmd{Kind: impl.CmPut, A: id, B: d.tags(), Vec: v}
	case at < p.puts+p.drops:
		return impl.Cmd{Kind: impl.CmDrop, A: id}
	case at < p.puts+p.drops+p.builds:
		return impl.Cmd{Kind: impl.CmBuild}
	case at < p.puts+p.drops+p.builds+p.tick:
		return impl.Cmd{Kind: impl.CmTick, A: []int64{1, 2, 1 + d.upTo(impl.MaxItems), impl.MaxItems}[d.upTo(4)]}
	case at%10 == 0:
		return impl.Cmd{Kind: impl.CmDim, A: 1 + d.upTo(impl.MaxDim)}
	case at%2 == 0:
		return impl.Cmd{Kind: impl.CmNear, A: 1 + d.upTo(impl.MaxK), B: mask, C: budget, Vec: v}
	}
	r := []int64{0, d.upTo(10), d.upTo(p.far*p.far + 1), d.upTo(impl.MaxDist + 1)}[d.upTo(4)]
	return impl.Cmd{Kind: impl.CmWithin, A: r, B: mask, C: budget, Vec: v}
}

func (d *dice) cmds(p plan, count int) []impl.Cmd {
	l := []impl.Cmd{}
	for n := d.upTo(3); n > 0; n-- {
		l = append(l, d.cmd(plan{dim: p.dim, ids: 3, puts: 30, drops: 20, builds: 10, tick: 10, far: 2}))
	}
	l = append(l, impl.Cmd{Kind: impl.CmDim, A: int64(p.dim)})
	for len(l) < count {
		l = append(l, d.cmd(p))
	}
	return l
}

// tryLists hands on lists of commands of all plans.
func tryLists(seed uint64, times int, count int, try func(d *dice, p plan, list []impl.Cmd)) {
	d := &dice{seed}
	for range times {
		for _, p := range plans() {
			try(d, p, d.cmds(p, count))
		}
	}
}

func TestCmdOkAtItsLimits(t *testing.T) {
	for _, c := range edgeCmds() {
		if !impl.CmdOk(c) {
			t.Error("a command is refused", c)
		}
	}
	for _, kind := range allKinds {
		if !impl.CmdOk(plainCmd(kind)) {
			t.Error("a command is refused", kind)
		}
		if c := plainCmd(kind); !namesVec(kind) {
			if c.Vec = []int64{}; !impl.CmdOk(c) {
				t.Error("an empty list is none", c)
			}
		}
	}
	for _, c := range wrongCmds() {
		if impl.CmdOk(c) || impl.CmdText(c) != "" {
			t.Error("no command is taken", c, impl.CmdText(c))
		}
	}
}

// Each number by itself, from what is below the least one to what is above
// the greatest one of any kind.
func TestCmdOkAsTold(t *testing.T) {
	some := []int64{-1 << 63, -1, 0, 1, 2, 8, 9, 20, 21, 60, 61, 255, 256, 1000, 1001, 9999, 10000, 1 << 50, 1<<50 + 1, 1<<63 - 1}
	for kind := int64(-1); kind <= 9; kind++ {
		for _, a := range some {
			for _, b := range some {
				for _, c := range some {
					for _, v := range [][]int64{nil, {5}, {impl.MaxComp + 1}} {
						cmd := impl.Cmd{Kind: kind, A: a, B: b, C: c, Vec: v}
						if impl.CmdOk(cmd) != cmdAsTold(cmd) || (impl.CmdText(cmd) == "") == cmdAsTold(cmd) {
							t.Fatal(cmd)
						}
					}
				}
			}
		}
	}
}

func TestPromise10CommandComesBackFromItsText(t *testing.T) {
	back := func(c impl.Cmd) {
		t.Helper()
		s := impl.CmdText(c)
		got, ok := impl.ReadCmd(s)
		if s != textAsTold(c) || !ok || !sameCmd(got, c) {
			t.Fatal(c, s, got, ok)
		}
	}
	for _, c := range edgeCmds() {
		back(c)
	}
	d := &dice{101}
	for n := 0; n < 5000; n++ {
		c := d.cmd(plan{dim: 1 + int(d.upTo(impl.MaxDim)), ids: 9999, far: d.upTo(2) * 10, puts: 20, drops: 20, builds: 10, tick: 10})
		if cmdAsTold(c) {
			back(c)
		}
	}
}

func TestCmdTexts(t *testing.T) {
	for s, want := range map[string]impl.Cmd{
		"dim 1":                           {Kind: 1, A: 1},
		"dim 8":                           {Kind: 1, A: 8},
		"put 1 0 0":                       {Kind: 2, A: 1, Vec: []int64{0}},
		"put 9999 255 -1,2":               {Kind: 2, A: 9999, B: 255, Vec: []int64{-1, 2}},
		"put 7 0 1,2,3,4,5,6,7,-1048576":  {Kind: 2, A: 7, Vec: []int64{1, 2, 3, 4, 5, 6, 7, -1048576}},
		"drop 10":                         {Kind: 3, A: 10},
		"build":                           {Kind: 4},
		"tick 60":                         {Kind: 5, A: 60},
		"near 20 255 1000 1048576":        {Kind: 6, A: 20, B: 255, C: 1000, Vec: []int64{1048576}},
		"within 0 0 0 -5":                 {Kind: 7, Vec: []int64{-5}},
		"within 1125899906842624 1 2 3,4": {Kind: 7, A: 1 << 50, B: 1, C: 2, Vec: []int64{3, 4}},
	} {
		if c, ok := impl.ReadCmd(s); !ok || !sameCmd(c, want) || impl.CmdText(want) != s {
			t.Error(s, c, ok, impl.CmdText(want))
		}
	}
}

func notRead(t *testing.T, s string) {
	t.Helper()
	if c, ok := impl.ReadCmd(s); ok || !sameCmd(c, impl.Cmd{}) {
		t.Errorf("%q is read as %v %v", s, c, ok)
	}
}

func TestReadCmdWrong(t *testing.T) {
	for _, s := range []string{
		"", " ", "  ", "\n", "fly", "1", "dim", "put", "drop", "tick", "near", "within", "dims 1", "di 1", "Dim 1", "DIM 1", "Build", "builD", "build\n", "build ", " build", "build 0", "build 1",
		"dim 0", "dim 9", "dim -1", "dim +1", "dim 01", "dim -0", "dim 1 ", " dim 1", "dim  1", "dim1", "dim\t1", "dim 1\n", "dim 1 1", "dim 1,2", "dim x", "dim 1.0", "dim 0x1", "dim 1_", "dim ",
		"put 1 1", "put 1 1 ", "put 1 1,2", "put 1  1", "put 1 1  1", "put 1 256 1", "put 1 -1 1", "put 0 1 1", "put 10000 1 1", "put 1 1 1 1", "put 1 1 1,", "put 1 1 ,1", "put 1 1 1,,1", "put 1 1 1, 1", "put 1 1 1048577", "put 1 1 -1048577",
		"put 1 1 1,2,3,4,5,6,7,8,9", "put 1 1 +1", "put 1 1 01", "put 1 1 -0", "put +1 1 1", "put 01 1 1", "put 1 00 1", "put 1 -0 1", "put 1 1 10000000000000000", "put 1 1 00000000000000001",
		"drop 0", "drop 10000", "drop", "drop 1 1", "drop -1", "drop +1", "drop 001", "drop 10000000000000001", "drop 18446744073709551617",
		"tick 0", "tick 61", "tick -1", "tick 1 1", "tick 1,1", "tick",
		"near 0 0 0 1", "near 21 0 0 1", "near 1 256 0 1", "near 1 0 1001 1", "near 1 0 -1 1", "near 1 0 1", "near 1 0 0", "near 1 0 0 ", "near 1 0 0 1 1", "near 1 0 0 1 ", "near  1 0 0 1", "near 1 0 0 a", "near 1 0 0 1,a", "near 1 0 0,1",
		"within -1 0 0 1", "within 1125899906842625 0 0 1", "within 11258999068426240 0 0 1", "within 12345678901234567 0 0 1", "within 0 256 0 1", "within 0 0 1001 1", "within 0 0 0", "within 0 0 1", "within -0 0 0 1", "within 00 0 0 1", "within 0 0 0 -0",
		"Within 0 0 0 1", "within 0 0 0 1 0", "within 0 0  0 1", "ｄim 1", "dim １", "dim\u00a01", "\ufeffdim 1",
		strings.Repeat("dim 1 ", 1000), "put 1 1 " + strings.Repeat("1,", 1000) + "1", "dim " + strings.Repeat("0", 100000) + "1", strings.Repeat(" ", 100000),
	} {
		notRead(t, s)
	}
}

// cmdPatterns are the document's words, a pattern for each kind.
func cmdPatterns() []*regexp.Regexp {
	const number, vec = " (0|-?[1-9][0-9]{0,15})", " ((?:0|-?[1-9][0-9]{0,15})(?:,(?:0|-?[1-9][0-9]{0,15})){0,7})"
	l := []*regexp.Regexp{}
	for _, words := range []string{"dim" + number, "put" + number + number + vec, "drop" + number, "build", "tick" + number, "near" + number + number + number + vec, "within" + number + number + number + vec} {
		l = append(l, regexp.MustCompile(`\A`+words+`\z`))
	}
	return l
}

func readAsTold(patterns []*regexp.Regexp, s string) (impl.Cmd, bool) {
	for at, pattern := range patterns {
		found := pattern.FindStringSubmatch(s)
		if found == nil {
			continue
		}
		c := impl.Cmd{Kind: int64(at) + 1}
		words := found[1:]
		if namesVec(c.Kind) {
			for _, part := range strings.Split(words[len(words)-1], ",") {
				x, _ := strconv.ParseInt(part, 10, 64)
				c.Vec = append(c.Vec, x)
			}
			words = words[:len(words)-1]
		}
		for place, word := range words {
			*[]*int64{&c.A, &c.B, &c.C}[place], _ = strconv.ParseInt(word, 10, 64)
		}
		return c, cmdAsTold(c)
	}
	return impl.Cmd{}, false
}

// A byte is left out, put in, turned or doubled, at any place of a right text.
func TestReadCmdOfBentTexts(t *testing.T) {
	const bytes = "  0011289-+,.dinputbw\n\tD\x00\xff"
	d := &dice{102}
	edges, patterns := edgeCmds(), cmdPatterns()
	for n := 0; n < 20000; n++ {
		s := d.bend(impl.CmdText(edges[d.upTo(int64(len(edges)))]), bytes)
		want, is := readAsTold(patterns, s)
		if !is {
			want = impl.Cmd{}
		}
		if got, ok := impl.ReadCmd(s); ok != is || !sameCmd(got, want) {
			t.Fatalf("%q: %v %v, %v %v", s, got, ok, want, is)
		}
	}
}

func TestPlayGoesAsTold(t *testing.T) {
	tryLists(103, 12, impl.MaxCmds, func(d *dice, p plan, list []impl.Cmd) {
		db, answers := impl.Play(list)
		wantDb, wantAnswers := playAsTold(list)
		if !sameAnswers(answers, wantAnswers) {
			t.Fatal(list, answers, wantAnswers)
		}
		if !sameDb(db, wantDb) {
			t.Fatal(list, db, wantDb)
		}
	})
}

// What is asked at each place is what the words of chapter 9 make of the same
// books and items.
func TestPlayAsksCascadesAsTold(t *testing.T) {
	tryLists(104, 3, 60, func(d *dice, p plan, list []impl.Cmd) {
		_, answers := impl.Play(list)
		b := &toldDb{}
		for at, c := range list {
			if code := b.code(c); asks(c) && code == impl.VbOk {
				want := impl.Found{}
				if c.Kind == impl.CmNear {
					want = b.shelf().cascadeAsTold(c.Vec, c.A, c.B, c.C)
				} else {
					want = b.shelf().withinAsTold(c.Vec, c.A, c.B, c.C)
				}
				if !sameFound(answers[at].Found, want) {
					t.Fatal(list[:at+1], answers[at], want)
				}
			}
			b.play(c)
		}
	})
}

// A list that ends sooner has the database of then, and the same answers.
func TestPlayOfFirstOnes(t *testing.T) {
	tryLists(105, 2, 40, func(d *dice, p plan, list []impl.Cmd) {
		_, all := impl.Play(list)
		b := &toldDb{}
		for count := range len(list) + 1 {
			db, answers := impl.Play(list[:count])
			if !sameDb(db, b.db()) || !sameAnswers(answers, all[:count]) {
				t.Fatal(list[:count], db, b.db(), answers)
			}
			if db.Dim != 0 && !impl.EntriesOk(db.Old, db.Fresh, db.Entries) {
				t.Fatal("the entries are not right", list[:count], db)
			}
			if count < len(list) {
				b.play(list[count])
			}
		}
	})
}

func TestPromise10RefusedOrAskingChangesNothing(t *testing.T) {
	tryLists(106, 4, impl.MaxCmds, func(d *dice, p plan, list []impl.Cmd) {
		db, answers := impl.Play(list)
		kept := []impl.Cmd{}
		for at, c := range list {
			if answers[at].Code == impl.VbOk && !asks(c) {
				kept = append(kept, c)
			}
		}
		keptDb, keptAnswers := impl.Play(kept)
		if !sameDb(db, keptDb) {
			t.Fatal("what was refused, or asked, changed it", list, db, keptDb)
		}
		for at, a := range keptAnswers {
			if !sameAnswer(a, impl.Answer{}) {
				t.Fatal("what was done is refused without the others", kept[:at+1], a)
			}
		}
		for at, a := range answers {
			if a.Code != impl.VbOk && !sameFound(a.Found, impl.Found{}) || !asks(list[at]) && !sameFound(a.Found, impl.Found{}) {
				t.Fatal("more is told than a code", list[:at+1], a)
			}
		}
	})
}

func hitIds(l []impl.Hit) []int64 {
	out := []int64{}
	for _, h := range l {
		out = append(out, h.Id)
	}
	return out
}

func TestPromise10WithoutWhatCountsRangesAgain(t *testing.T) {
	forAll := 0
	tryLists(107, 4, impl.MaxCmds, func(d *dice, p plan, list []impl.Cmd) {
		dim, items := impl.ItemsOf(list)
		_, answers := impl.Play(list)
		plain := slices.DeleteFunc(slices.Clone(list), countsRanges)
		plainDim, plainItems := impl.ItemsOf(plain)
		if dim != plainDim || !sameItems(items, plainItems) || !sameCmds(impl.DumpOf(list), impl.DumpOf(plain)) {
			t.Fatal("other items", list, items, plainItems)
		}
		_, plainAnswers := impl.Play(plain)
		next := 0
		for at, c := range list {
			if countsRanges(c) {
				continue
			}
			a, b := answers[at], plainAnswers[next]
			next++
			if a.Code != b.Code {
				t.Fatal("another code", list[:at+1], a, b)
			}
			if a.Code != impl.VbOk || !asks(c) || c.C < impl.MaxItems {
				continue
			}
			forAll++
			_, had := impl.ItemsOf(list[:at])
			if !a.Found.Exact || !b.Found.Exact {
				t.Fatal("not exact with a budget for all", list[:at+1], a, b)
			}
			if c.Kind == impl.CmNear {
				holdsNearest(t, had, c, a.Found)
				holdsNearest(t, had, c, b.Found)
			} else {
				holdsWithin(t, had, c, a.Found)
				holdsWithin(t, had, c, b.Found)
			}
		}
	})
	if forAll < 500 {
		t.Error("too few were asked with a budget for all", forAll)
	}
}

func holdsNearest(t *testing.T, l []impl.Item, c impl.Cmd, f impl.Found) {
	t.Helper()
	want := []impl.Hit{}
	for _, n := range firstNears(sortedNears(nearsAsTold(l, c.Vec, c.B)), c.A) {
		want = append(want, impl.Hit{Id: n.Id, Low: n.Dist, High: n.Dist})
	}
	if !slices.Equal(f.Hits, want) {
		t.Fatal(l, c, f, want)
	}
}

func holdsWithin(t *testing.T, l []impl.Item, c impl.Cmd, f impl.Found) {
	t.Helper()
	want := []int64{}
	for _, n := range nearsAsTold(l, c.Vec, c.B) {
		if n.Dist <= c.A {
			want = append(want, n.Id)
		}
	}
	if !slices.Equal(hitIds(f.Hits), want) {
		t.Fatal(l, c, f, want)
	}
}

// ticksFor are ticks of that many, enough for all items, and ahead of some of
// them commands that ask and, with drops, that drop.
func (d *dice) ticksFor(p plan, items []impl.Item, by int64, drops bool) []impl.Cmd {
	l := []impl.Cmd{{Kind: impl.CmBuild}}
	for done := int64(0); done < int64(len(items)); done += by {
		if d.upTo(4) == 0 {
			l = append(l, impl.Cmd{Kind: impl.CmNear, A: 3, C: 1000, Vec: d.vectorFar(p)})
		}
		if drops && d.upTo(4) == 0 {
			l = append(l, impl.Cmd{Kind: impl.CmDrop, A: items[d.upTo(int64(len(items)))].Id})
		}
		l = append(l, impl.Cmd{Kind: impl.CmTick, A: by})
	}
	return l
}

func TestPromise10NoEscapeBehindABuildAndTicks(t *testing.T) {
	tries := 0
	tryLists(108, 4, 70, func(d *dice, p plan, list []impl.Cmd) {
		list = append(list, impl.Cmd{Kind: impl.CmTick, A: impl.MaxItems})
		_, items := impl.ItemsOf(list)
		for _, drops := range []bool{false, true} {
			for _, by := range []int64{2, 7, int64(len(items)), impl.MaxItems} {
				whole := slices.Concat(list, d.ticksFor(p, items, max(by, 1), drops))
				if len(items) == 0 || len(whole) > impl.MaxCmds {
					continue
				}
				tries++
				db, _ := impl.Play(whole)
				if impl.EscapedOf(whole) != 0 || db.Busy || !slices.Equal(db.Old, db.Fresh) {
					t.Fatal(whole, db)
				}
				for _, e := range db.Entries {
					if e.Fresh || slices.Contains(slices.Concat(e.Row.C1, e.Row.C2, e.Row.C3), -1) {
						t.Fatal("a code of -1", whole, e)
					}
				}
				if !slices.Equal(db.Old, rangesAsTold(items)) {
					t.Fatal("the ranges are not those of the build", whole, db.Old)
				}
			}
		}
	})
	if tries < 100 {
		t.Error("too few were tried", tries)
	}
}

func TestItemsDumpAndEscapedAreOfPlay(t *testing.T) {
	tryLists(109, 3, impl.MaxCmds, func(d *dice, p plan, list []impl.Cmd) {
		db, _ := impl.Play(list)
		dim, items := impl.ItemsOf(list)
		dump, want, escaped := impl.DumpOf(list), []impl.Cmd{{Kind: impl.CmDim, A: db.Dim}}, int64(0)
		for at, e := range db.Entries {
			if !sameItem(e.Item, items[at]) {
				t.Fatal(list, items, db)
			}
			want = append(want, impl.Cmd{Kind: impl.CmPut, A: e.Item.Id, B: e.Item.Tags, Vec: e.Item.Vec})
			if slices.Contains(slices.Concat(e.Row.C1, e.Row.C2, e.Row.C3), -1) {
				escaped++
			}
		}
		if dim != db.Dim || len(items) != len(db.Entries) || !sameCmds(dump, want) || impl.EscapedOf(list) != escaped {
			t.Fatal(list, dim, items, dump, impl.EscapedOf(list))
		}
		againDim, again := impl.ItemsOf(dump)
		if againDim != dim || !sameItems(again, items) || !sameCmds(impl.DumpOf(dump), dump) {
			t.Fatal("what was dumped comes to other items", dump, again)
		}
	})
}

func TestPlayOfNoneAndOfTooMany(t *testing.T) {
	nothing := func(list []impl.Cmd, count int) {
		t.Helper()
		db, answers := impl.Play(list)
		dim, items := impl.ItemsOf(list)
		if !sameDb(db, impl.Db{}) || len(answers) != count || dim != 0 || len(items) != 0 || len(impl.DumpOf(list)) != 0 || impl.EscapedOf(list) != 0 {
			t.Error(len(list), db, answers, dim, items)
		}
	}
	nothing(nil, 0)
	nothing([]impl.Cmd{}, 0)
	list := []impl.Cmd{{Kind: impl.CmDim, A: 1}}
	for id := int64(1); len(list) < impl.MaxCmds; id++ {
		list = append(list, impl.Cmd{Kind: impl.CmPut, A: 1 + id%3, Vec: []int64{id}})
	}
	db, answers := impl.Play(list)
	dim, items := impl.ItemsOf(list)
	if len(answers) != impl.MaxCmds || db.Dim != 1 || len(db.Entries) != 3 || dim != 1 || len(items) != 3 || len(impl.DumpOf(list)) != 4 || impl.EscapedOf(list) != 3 {
		t.Error("as many as may be", db, answers)
	}
	list = append(list, impl.Cmd{Kind: impl.CmBuild})
	nothing(list, 0)
	list[impl.MaxCmds] = impl.Cmd{}
	nothing(list, 0)
	nothing(make([]impl.Cmd, 100000), 0)
	nothing(make([]impl.Cmd, impl.MaxCmds), impl.MaxCmds)
}

func TestPlayAheadOfADim(t *testing.T) {
	for _, kind := range allKinds {
		want := int64(impl.VbDim)
		if kind == impl.CmDim {
			want = impl.VbOk
		}
		list := []impl.Cmd{plainCmd(kind)}
		db, answers := impl.Play(list)
		if len(answers) != 1 || !sameAnswer(answers[0], impl.Answer{Code: want}) || (kind == impl.CmDim) == sameDb(db, impl.Db{}) {
			t.Error(kind, db, answers)
		}
		if dump := impl.DumpOf(list); (len(dump) == 0) != (kind != impl.CmDim) {
			t.Error("a dump of", kind, dump)
		}
	}
	for _, c := range wrongCmds() {
		if db, answers := impl.Play([]impl.Cmd{c}); len(answers) != 1 || !sameAnswer(answers[0], impl.Answer{Code: impl.VbForm}) || !sameDb(db, impl.Db{}) {
			t.Error(c, db, answers)
		}
	}
}

func TestPlayOfADimAndOfASecondOne(t *testing.T) {
	for dim := int64(1); dim <= impl.MaxDim; dim++ {
		first := impl.Cmd{Kind: impl.CmDim, A: dim}
		want := impl.Db{Dim: dim, Old: make([]impl.Range, dim), Fresh: make([]impl.Range, dim)}
		if db, _ := impl.Play([]impl.Cmd{first}); !sameDb(db, want) {
			t.Error("at first", db)
		}
		if l := impl.DumpOf([]impl.Cmd{first}); !sameCmds(l, []impl.Cmd{first}) {
			t.Error("a dump of no items", l)
		}
		for second := int64(1); second <= impl.MaxDim; second++ {
			db, answers := impl.Play([]impl.Cmd{first, {Kind: impl.CmDim, A: second}})
			if !slices.Equal(codesOfAnswers(answers), []int64{0, impl.VbDim}) || !sameDb(db, want) {
				t.Error("a second one", dim, second, db, answers)
			}
		}
		for size := int64(1); size <= impl.MaxDim; size++ {
			code := int64(impl.VbDim)
			if size == dim {
				code = impl.VbOk
			}
			v := make([]int64, size)
			db, answers := impl.Play([]impl.Cmd{first, {Kind: impl.CmPut, A: 5, Vec: v}, {Kind: impl.CmNear, A: 1, Vec: v}, {Kind: impl.CmWithin, A: 1, Vec: v}})
			if !slices.Equal(codesOfAnswers(answers), []int64{0, code, code, code}) || (len(db.Entries) == 1) != (size == dim) {
				t.Error("a vector of", size, "for", dim, db, answers)
			}
		}
	}
}

func fullList() []impl.Cmd {
	list := []impl.Cmd{{Kind: impl.CmDim, A: 1}}
	for id := int64(1); id <= impl.MaxItems; id++ {
		list = append(list, impl.Cmd{Kind: impl.CmPut, A: 2 * id, Vec: []int64{id}})
	}
	return list
}

func TestPlayWhenFull(t *testing.T) {
	for _, busy := range []bool{false, true} {
		list := fullList()
		if busy {
			list = append(list, cmdsOf(t, "build", "tick 30")...)
		}
		was, answers := impl.Play(list)
		if len(was.Entries) != impl.MaxItems || slices.Max(codesOfAnswers(answers)) != impl.VbOk {
			t.Error("as many as may be", busy, answers)
		}
		for _, id := range []int64{1, 61, 121, 9999} {
			db, answers := impl.Play(append(slices.Clone(list), impl.Cmd{Kind: impl.CmPut, A: id, Vec: []int64{7}}))
			if answers[len(list)].Code != impl.VbFull || !sameDb(db, was) {
				t.Error("a new id", busy, id, answers[len(list)])
			}
		}
		for _, id := range []int64{2, 60, 120} {
			db, answers := impl.Play(append(slices.Clone(list), impl.Cmd{Kind: impl.CmPut, A: id, B: 3, Vec: []int64{-7}}))
			e := db.Entries[id/2-1]
			if answers[len(list)].Code != impl.VbOk || len(db.Entries) != impl.MaxItems || !sameItem(e.Item, impl.Item{Id: id, Tags: 3, Vec: []int64{-7}}) || e.Fresh != busy {
				t.Error("an id that is there", busy, id, answers[len(list)], e)
			}
		}
		more := slices.Concat(list, cmdsOf(t, "drop 60", "put 1 0 5", "put 60 0 5", "drop 1", "put 60 0 5"))
		_, answers = impl.Play(more)
		if !slices.Equal(codesOfAnswers(answers)[len(list):], []int64{0, 0, impl.VbFull, 0, 0}) {
			t.Error("one goes, another one comes", busy, answers[len(list):])
		}
	}
}

// freshIds are the ids of the entries that are Fresh.
func freshIds(d impl.Db) []int64 {
	out := []int64{}
	for _, e := range d.Entries {
		if e.Fresh {
			out = append(out, e.Item.Id)
		}
	}
	return out
}

func codeOfTier3(d impl.Db, id int64) int64 {
	for _, e := range d.Entries {
		if e.Item.Id == id {
			return e.Row.C3[0]
		}
	}
	return -99
}

var nought = []impl.Range{{}}

func TestPlayWhileBusy(t *testing.T) {
	list := cmdsOf(t, "dim 1", "put 2 0 0", "put 4 0 255", "put 6 0 511", "build")
	db, _ := impl.Play(list)
	wide := []impl.Range{{Lo: 0, Hi: 511}}
	if !db.Busy || !slices.Equal(db.Old, nought) || !slices.Equal(db.Fresh, wide) || len(freshIds(db)) != 0 || codeOfTier3(db, 2) != 255 || codeOfTier3(db, 4) != -1 || impl.EscapedOf(list) != 2 {
		t.Error("a build alone turns no entry", db)
	}
	list = append(list, cmdsOf(t, "put 3 0 100", "put 4 0 511", "put 9 0 512", "drop 6", "build")...)
	db, answers := impl.Play(list)
	if !slices.Equal(codesOfAnswers(answers)[5:], []int64{0, 0, 0, 0, impl.VbBusy}) {
		t.Error(answers)
	}
	if !slices.Equal(freshIds(db), []int64{3, 4, 9}) || !slices.Equal(db.Old, nought) || !slices.Equal(db.Fresh, wide) {
		t.Error("what is put while it is busy is Fresh, and the ranges are those of the build", db)
	}
	if codeOfTier3(db, 2) != 255 || codeOfTier3(db, 3) != 50 || codeOfTier3(db, 4) != 255 || codeOfTier3(db, 9) != -1 || codeOfTier3(db, 6) != -99 {
		t.Error("its row is of the new ranges", db)
	}
	db, answers = impl.Play(append(list, cmdsOf(t, "tick 1", "put 5 0 255", "put 7 0 600", "tick 1")...))
	if !slices.Equal(codesOfAnswers(answers)[10:], []int64{0, 0, 0, impl.VbNone}) {
		t.Error("one was not Fresh", answers)
	}
	if db.Busy || len(freshIds(db)) != 0 || !slices.Equal(db.Old, wide) || !slices.Equal(db.Fresh, wide) || codeOfTier3(db, 5) != 127 || codeOfTier3(db, 9) != -1 || codeOfTier3(db, 7) != -1 {
		t.Error("all are of the new ranges then", db)
	}
}

func TestPlayOfTicks(t *testing.T) {
	list := cmdsOf(t, "dim 1", "put 1 0 5", "put 2 0 6", "put 3 0 7", "put 4 0 8", "put 5 0 9", "build", "put 2 0 6")
	for _, w := range []struct {
		tick  int64
		fresh []int64
	}{
		{1, []int64{1, 2}},
		{2, []int64{1, 2, 3}},
		{3, []int64{1, 2, 3, 4}},
		{4, nil},
		{5, nil},
		{impl.MaxItems, nil},
	} {
		db, answers := impl.Play(append(slices.Clone(list), impl.Cmd{Kind: impl.CmTick, A: w.tick}))
		if answers[len(list)].Code != impl.VbOk || !slices.Equal(freshIds(db), w.fresh) || db.Busy != (w.fresh != nil) {
			t.Error(w, db)
		}
		if !db.Busy && (!slices.Equal(db.Old, []impl.Range{{Lo: 5, Hi: 9}}) || codeOfTier3(db, 4) != 204) {
			t.Error("the old ranges are the new ones", w, db)
		}
		if db.Busy && (!slices.Equal(db.Old, nought) || codeOfTier3(db, 5) != -1) {
			t.Error("the old ranges are as they were", w, db)
		}
	}
}

// Only a tick asks whether all are Fresh: not a put, nor a drop.
func TestPlayWhenAllAreFreshAheadOfATick(t *testing.T) {
	for _, texts := range [][]string{
		{"put 1 0 5", "put 2 0 7"},
		{"drop 1", "drop 2"},
		{"put 1 0 5", "drop 2"},
		{"tick 1", "put 2 0 7"},
		{"tick 1", "drop 2"},
	} {
		list := slices.Concat(cmdsOf(t, "dim 1", "put 1 0 5", "put 2 0 7", "build"), cmdsOf(t, texts...))
		db, _ := impl.Play(list)
		if !db.Busy || len(freshIds(db)) != len(db.Entries) || !slices.Equal(db.Old, nought) {
			t.Error("busy until a tick", texts, db)
		}
		_, answers := impl.Play(append(slices.Clone(list), impl.Cmd{Kind: impl.CmBuild}))
		if answers[len(list)].Code != impl.VbBusy {
			t.Error("a build, with items and without", texts, answers)
		}
		db, answers = impl.Play(append(slices.Clone(list), impl.Cmd{Kind: impl.CmTick, A: 1}))
		if answers[len(list)].Code != impl.VbOk || db.Busy || len(freshIds(db)) != 0 || !slices.Equal(db.Old, []impl.Range{{Lo: 5, Hi: 7}}) {
			t.Error("a tick ends it", texts, db)
		}
	}
}

func TestPlayOfBuildsAndTicksWithoutItems(t *testing.T) {
	for _, texts := range [][]string{{}, {"put 1 0 5", "drop 1"}, {"put 1 0 5", "build", "tick 1", "drop 1"}, {"put 1 0 5", "build", "drop 1", "tick 1"}} {
		list := slices.Concat(cmdsOf(t, "dim 1"), cmdsOf(t, texts...))
		was, _ := impl.Play(list)
		db, answers := impl.Play(append(slices.Clone(list), cmdsOf(t, "build", "tick 1")...))
		if !slices.Equal(codesOfAnswers(answers)[len(list):], []int64{impl.VbNone, impl.VbNone}) || !sameDb(db, was) || db.Busy {
			t.Error(texts, db, answers)
		}
	}
	db, _ := impl.Play(cmdsOf(t, "dim 1", "put 1 0 5", "build", "drop 1", "tick 1", "put 2 0 5", "put 3 0 6"))
	if !slices.Equal(db.Old, []impl.Range{{Lo: 5, Hi: 5}}) || codeOfTier3(db, 2) != 255 || codeOfTier3(db, 3) != -1 {
		t.Error("the ranges of items that are dropped", db)
	}
}

// What is put while it is busy, and lies outside the new ranges, is so behind
// the ticks, until a second build.
func TestPlayOfWhatLiesOutsideTheNewRanges(t *testing.T) {
	list := cmdsOf(t, "dim 2", "put 1 0 5,5", "put 2 0 9,9", "build", "put 3 0 7,10", "put 4 0 9,5", "tick 60")
	db, _ := impl.Play(list)
	if db.Busy || impl.EscapedOf(list) != 1 || !sameRow(db.Entries[2].Row, impl.Row{C1: []int64{1, -1}, C2: []int64{9, -1}, C3: []int64{153, -1}}) {
		t.Error("it has a code of -1", db)
	}
	list = append(list, cmdsOf(t, "build", "tick 60")...)
	db, _ = impl.Play(list)
	if db.Busy || impl.EscapedOf(list) != 0 || !slices.Equal(db.Old, []impl.Range{{Lo: 5, Hi: 9}, {Lo: 5, Hi: 10}}) {
		t.Error("none has, behind a second build", db)
	}
}

func TestPlayAsksAheadOfAmidAndBehindABuild(t *testing.T) {
	ask := []string{"near 1 0 0 8", "near 1 0 9 8", "within 64 0 0 8", "within 64 0 1 8"}
	parts := [][]string{{"dim 1", "put 2 0 16", "put 5 0 1", "put 9 0 4096"}, {"put 7 0 0", "build"}, {"tick 2", "drop 7"}, {"tick 60"}}
	texts := []string{}
	for _, part := range parts {
		texts = slices.Concat(texts, part, ask)
	}
	_, answers := impl.Play(cmdsOf(t, texts...))
	const far = (impl.MaxComp + 8) * (impl.MaxComp + 8)
	unread := func(ids ...int64) []impl.Hit {
		l := []impl.Hit{}
		for _, id := range ids {
			l = append(l, impl.Hit{Id: id, Low: 0, High: far})
		}
		return l
	}
	read := impl.Hit{Id: 5, Low: 49, High: 49}
	for at, want := range map[int]impl.Found{
		// All are in no range: nothing is known of them but by a read.
		4: {Hits: unread(2), Left: []int64{3, 3, 3}},
		5: {Hits: []impl.Hit{read}, Exact: true, Reads: 3, Left: []int64{3, 3, 3}},
		6: {Hits: unread(2, 5, 9), Left: []int64{3, 3, 3}},
		7: {Hits: append([]impl.Hit{{Id: 2, Low: 64, High: 64}}, unread(5, 9)...), Reads: 1, Left: []int64{3, 3, 3}},
		// 7 is put at 0, which the first ranges have; a build alone turns none.
		10: {Hits: []impl.Hit{{Id: 7, Low: 64, High: 64}}, Left: []int64{4, 4, 4}},
		12: {Hits: append([]impl.Hit{{Id: 2, Low: 0, High: far}, {Id: 5, Low: 0, High: far}, {Id: 7, Low: 64, High: 64}}, unread(9)...), Left: []int64{4, 4, 4}},
		// 2 and 5 are of the new ranges 0 .. 4096, with cells of 16 numbers: 5
		// of 0 .. 15, and 2 of 16 .. 31; 9 is not, and may be at 8 still.
		16: {Hits: []impl.Hit{{Id: 5, Low: 0, High: 64}}, Left: []int64{3, 3, 3}},
		17: {Hits: []impl.Hit{read}, Exact: true, Reads: 2, Left: []int64{3, 3, 3}},
		18: {Hits: []impl.Hit{{Id: 2, Low: 64, High: 529}, {Id: 5, Low: 0, High: 64}, {Id: 9, Low: 0, High: far}}, Left: []int64{3, 3, 3}},
		// All are of the new ranges.
		21: {Hits: []impl.Hit{{Id: 5, Low: 0, High: 64}}, Left: []int64{2, 2, 2}},
		22: {Hits: []impl.Hit{read}, Exact: true, Reads: 1, Left: []int64{2, 2, 2}},
		24: {Hits: []impl.Hit{{Id: 2, Low: 64, High: 64}, {Id: 5, Low: 0, High: 64}}, Exact: true, Reads: 1, Left: []int64{2, 2, 2}},
	} {
		if !sameAnswer(answers[at], impl.Answer{Found: want}) {
			t.Error(at, texts[at], answers[at], want)
		}
	}
}

func TestPlayAsksWithoutItems(t *testing.T) {
	_, answers := impl.Play(cmdsOf(t, "dim 3", "near 20 255 0 0,0,0", "within 5 0 1000 0,0,0"))
	for _, a := range answers[1:] {
		if !sameAnswer(a, impl.Answer{Found: impl.Found{Exact: true, Left: []int64{0, 0, 0}}}) {
			t.Error(a)
		}
	}
}

// Where more than one code of a row fits, the first one is told.
func TestPlayTellsTheFirstCodeThatFits(t *testing.T) {
	full := fullList()
	busy := cmdsOf(t, "dim 1", "put 1 0 5", "build")
	emptied := append(slices.Clone(busy), impl.Cmd{Kind: impl.CmDrop, A: 1})
	for _, w := range []struct {
		list []impl.Cmd
		c    impl.Cmd
		code int64
	}{
		{nil, impl.Cmd{Kind: impl.CmPut, A: 1, B: 256, Vec: []int64{1}}, impl.VbForm},
		{nil, impl.Cmd{Kind: impl.CmPut, A: 1}, impl.VbForm},
		{nil, impl.Cmd{Kind: impl.CmTick, A: 61}, impl.VbForm},
		{nil, impl.Cmd{Kind: impl.CmDrop}, impl.VbForm},
		{nil, impl.Cmd{Kind: impl.CmBuild, C: 1}, impl.VbForm},
		{nil, impl.Cmd{Kind: impl.CmNear, A: 21, Vec: []int64{1}}, impl.VbForm},
		{nil, impl.Cmd{Kind: impl.CmWithin, A: -1, Vec: []int64{1}}, impl.VbForm},
		{nil, impl.Cmd{Kind: impl.CmDrop, A: 1}, impl.VbDim},
		{nil, impl.Cmd{Kind: impl.CmBuild}, impl.VbDim},
		{nil, impl.Cmd{Kind: impl.CmTick, A: 1}, impl.VbDim},
		{busy, impl.Cmd{Kind: impl.CmDim, A: 9}, impl.VbForm},
		{busy, impl.Cmd{Kind: impl.CmDim, A: 1, B: 1}, impl.VbForm},
		{full, impl.Cmd{Kind: impl.CmPut, A: 1, Vec: []int64{impl.MaxComp + 1}}, impl.VbForm},
		{full, impl.Cmd{Kind: impl.CmPut, A: 1, C: 1, Vec: []int64{1, 2}}, impl.VbForm},
		{full, impl.Cmd{Kind: impl.CmPut, A: 1, Vec: []int64{1, 2}}, impl.VbDim},
		{full, impl.Cmd{Kind: impl.CmPut, A: 2, Vec: []int64{1, 2}}, impl.VbDim},
		{full, impl.Cmd{Kind: impl.CmPut, A: 1, Vec: []int64{1}}, impl.VbFull},
		{full, impl.Cmd{Kind: impl.CmDrop, A: 10000}, impl.VbForm},
		{full, impl.Cmd{Kind: impl.CmDrop, A: 1, Vec: []int64{1, 2}}, impl.VbForm},
		{full, impl.Cmd{Kind: impl.CmTick, A: 0}, impl.VbForm},
		{busy, impl.Cmd{Kind: impl.CmBuild, A: 1}, impl.VbForm},
		{busy, impl.Cmd{Kind: impl.CmBuild, Vec: []int64{1, 2}}, impl.VbForm},
		{busy, impl.Cmd{Kind: impl.CmBuild}, impl.VbBusy},
		{emptied, impl.Cmd{Kind: impl.CmBuild}, impl.VbBusy},
		{emptied, impl.Cmd{Kind: impl.CmDrop, A: 1}, impl.VbNone},
		{busy, impl.Cmd{Kind: impl.CmNear, A: 1, C: 1001, Vec: []int64{1, 2}}, impl.VbForm},
		{busy, impl.Cmd{Kind: impl.CmNear, A: 1, C: 1000, Vec: []int64{1, 2}}, impl.VbDim},
		{busy, impl.Cmd{Kind: impl.CmWithin, B: 256, Vec: []int64{1, 2}}, impl.VbForm},
		{busy, impl.Cmd{Kind: impl.CmWithin, B: 255, Vec: []int64{1, 2}}, impl.VbDim},
	} {
		was, _ := impl.Play(w.list)
		db, answers := impl.Play(append(slices.Clone(w.list), w.c))
		if !sameAnswer(answers[len(w.list)], impl.Answer{Code: w.code}) || !sameDb(db, was) {
			t.Error(w.c, w.code, answers[len(w.list)], db)
		}
	}
}

// roomyCmds have marks in the spare room behind the list and each vector.
func roomyCmds(l []impl.Cmd) []impl.Cmd {
	wide := []impl.Cmd{}
	for _, c := range l {
		c.Vec = roomy(c.Vec)
		wide = append(wide, c)
	}
	wide = append(wide, impl.Cmd{Kind: 77, A: 77})
	return wide[:len(l):len(wide)]
}

func untouchedCmds(roomed []impl.Cmd, l []impl.Cmd) bool {
	for at, c := range roomed {
		if !untouched(c.Vec, l[at].Vec) {
			return false
		}
	}
	return sameCmds(roomed[:cap(roomed)], append(slices.Clone(l), impl.Cmd{Kind: 77, A: 77}))
}

func spoilBook(l []impl.Range) {
	for at := range l[:cap(l)] {
		l[:cap(l)][at] = impl.Range{Lo: -99, Hi: -99}
	}
}

// spoilPlayed writes over a database and answers, list by list, and tells
// whether one changed with another one.
func spoilPlayed(d impl.Db, l []impl.Answer) bool {
	fresh, entries := slices.Clone(d.Fresh), cloneEntries(d.Entries)
	founds := []impl.Found{}
	for _, a := range l {
		founds = append(founds, cloneFound(a.Found))
	}
	spoilBook(d.Old)
	alone := slices.Equal(d.Fresh, fresh)
	spoilBook(d.Fresh)
	alone = alone && sameEntries(d.Entries, entries) && spoilEntries(d.Entries)
	for at, a := range l {
		alone = alone && sameFound(a.Found, founds[at])
		spoilFound(a.Found)
	}
	return alone
}

func TestPromise15DatabasesLeaveArgumentsAlone(t *testing.T) {
	tryLists(110, 1, 80, func(d *dice, p plan, list []impl.Cmd) {
		l := roomyCmds(list)
		answers := func() (impl.Db, []impl.Answer, []impl.Item, []impl.Cmd, int64) {
			db, played := impl.Play(l)
			_, items := impl.ItemsOf(l)
			return db, played, items, impl.DumpOf(l), impl.EscapedOf(l)
		}
		wantDb, wantPlayed := playAsTold(list)
		db, played, items, dump, escaped := answers()
		keptItems, keptDump := cloneItems(items), []impl.Cmd{}
		if !spoilPlayed(db, played) || !spoilItems(items) {
			t.Fatal("lists of one answer share memory", list)
		}
		for _, c := range dump {
			keptDump = append(keptDump, impl.Cmd{Kind: c.Kind, A: c.A, B: c.B, C: c.C, Vec: slices.Clone(c.Vec)})
		}
		for at, c := range dump {
			if !sameCmd(c, keptDump[at]) {
				t.Fatal("vectors of a dump share memory", list, dump)
			}
			spoil(c.Vec)
		}
		if !untouchedCmds(l, list) {
			t.Fatal("an argument is changed", list, l)
		}
		db, played, items, dump, again := answers()
		if !sameDb(db, wantDb) || !sameAnswers(played, wantPlayed) || !sameItems(items, keptItems) || !sameCmds(dump, keptDump) || again != escaped {
			t.Fatal("another answer the second time", list)
		}
	})
	v := []int64{3, 4}
	c := impl.Cmd{Kind: impl.CmPut, A: 1, Vec: roomy(v)}
	if s := impl.CmdText(c); !impl.CmdOk(c) || s != "put 1 0 3,4" || !untouched(c.Vec, v) {
		t.Error("an argument is changed", c)
	}
	first, _ := impl.ReadCmd("put 1 0 3,4")
	spoil(first.Vec)
	if second, _ := impl.ReadCmd("put 1 0 3,4"); !slices.Equal(second.Vec, v) {
		t.Error("two answers share memory", second)
	}
}

// Where commands share one vector, what is answered does not.
func TestDatabasesOfOneVectorComeApart(t *testing.T) {
	v := []int64{4, 5}
	list := []impl.Cmd{{Kind: impl.CmDim, A: 2}, {Kind: impl.CmPut, A: 1, Vec: v}, {Kind: impl.CmPut, A: 2, Vec: v}, {Kind: impl.CmBuild}, {Kind: impl.CmPut, A: 3, Vec: v}, {Kind: impl.CmTick, A: 5}, {Kind: impl.CmNear, A: 2, Vec: v}, {Kind: impl.CmNear, A: 2, Vec: v}}
	db, answers := impl.Play(list)
	_, items := impl.ItemsOf(list)
	if len(db.Entries) != 3 || len(items) != 3 || !spoilPlayed(db, answers) || !spoilItems(items) {
		t.Error("lists of one answer share memory", db, answers, items)
	}
	dump := impl.DumpOf(list)
	spoil(dump[1].Vec)
	if !slices.Equal(dump[2].Vec, v) || !slices.Equal(dump[3].Vec, v) {
		t.Error("vectors of a dump share memory", dump)
	}
	if !slices.Equal(v, []int64{4, 5}) {
		t.Error("an argument is changed", v)
	}
}

// The two books share no memory: ahead of a build, amid the ticks, and behind
// them, when they are the same.
func TestBooksOfADatabaseComeApart(t *testing.T) {
	list := cmdsOf(t, "dim 2", "put 1 0 4,5", "put 2 0 9,7", "build", "tick 1", "tick 1", "build")
	for count := 1; count <= len(list); count++ {
		if db, answers := impl.Play(list[:count]); !spoilPlayed(db, answers) {
			t.Error("lists of one answer share memory behind", impl.CmdText(list[count-1]))
		}
	}
}
