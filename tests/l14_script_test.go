package tests

import (
	"regexp"
	"slices"
	"strconv"
	"strings"
	"testing"

	"loop.example/g00707/impl"
)

var decimalPattern = regexp.MustCompile(`\A` + decimal + `\z`)

// scriptAsTold goes line by line by the document's words: what is asked of the
// database is asked of Play of all commands so far.
func scriptAsTold(text string) string {
	if len(text) > 4000 || strings.Count(text, "\n") > 60 || text != "" && text[len(text)-1] != '\n' {
		return "too long\n"
	}
	list, out := []impl.Cmd{}, ""
	for line := range strings.SplitSeq(text, "\n") {
		words := wordsAsTold(line)
		if len(words) == 0 {
			continue
		}
		said := ""
		said, list = lineAsTold(list, words)
		out += said + "\n"
	}
	return out
}

func wordsAsTold(line string) []string {
	return slices.DeleteFunc(strings.Split(line, " "), func(word string) bool { return word == "" })
}

func lineAsTold(list []impl.Cmd, words []string) (string, []impl.Cmd) {
	if c, ok := impl.ReadCmd(strings.Join(words, " ")); ok {
		list = append(list, c)
		_, answers := impl.Play(list)
		return answerAsTold(c, answers[len(answers)-1]), list
	}
	dim, items := impl.ItemsOf(list)
	at := slices.Index([]string{"state", "get", "rank"}, words[0])
	if at == -1 || len(words) != at+1 || at > 0 && !decimalPattern.MatchString(words[1]) {
		return "what", list
	}
	if at == 0 {
		return stateAsTold(list), list
	}
	id, _ := strconv.ParseInt(words[1], 10, 64)
	if at == 1 {
		for _, i := range items {
			if i.Id == id {
				return impl.ItemText(i), list
			}
		}
		return "none", list
	}
	v, ok := impl.ReadVec(words[2])
	rank := impl.RankOf(dim, items, v, id)
	switch {
	case !ok:
		return "what", list
	case rank == -1:
		return "none", list
	}
	return strconv.FormatInt(rank, 10), list
}

func answerAsTold(c impl.Cmd, a impl.Answer) string {
	switch {
	case a.Code != impl.VbOk:
		return "no " + strconv.FormatInt(a.Code, 10)
	case asks(c):
		return "ok " + impl.FoundText(a.Found)
	}
	return "ok"
}

func stateAsTold(list []impl.Cmd) string {
	db, _ := impl.Play(list)
	fresh, escaped, word := 0, 0, "idle"
	if db.Busy {
		word = "busy"
	}
	for _, e := range db.Entries {
		if e.Fresh {
			fresh++
		}
		if slices.Contains(e.Row.C1, -1) {
			escaped++
		}
	}
	return "dim " + strconv.FormatInt(db.Dim, 10) + " items " + strconv.Itoa(len(db.Entries)) + " fresh " + strconv.Itoa(fresh) + " " + word + " escaped " + strconv.Itoa(escaped)
}

func script(lines ...string) string {
	return strings.Join(append(slices.Clone(lines), ""), "\n")
}

func holdsScript(t *testing.T, text string) string {
	t.Helper()
	got := impl.RunScript(text)
	if want := scriptAsTold(text); got != want {
		t.Fatalf("%q\nsays %q\nnot  %q", text, got, want)
	}
	return got
}

// says holds a script, given as its lines and what each says, to both.
func says(t *testing.T, pairs ...string) {
	t.Helper()
	lines, want := []string{}, []string{}
	for at := 0; at < len(pairs); at += 2 {
		lines = append(lines, pairs[at])
		if pairs[at+1] != "" {
			want = append(want, pairs[at+1])
		}
	}
	if got := holdsScript(t, script(lines...)); got != script(want...) {
		t.Fatalf("%q\nsays %q\nnot  %q", lines, got, want)
	}
}

// asking is a line that asks of the items, right or nearly so.
func (d *dice) asking(p plan) string {
	id := strconv.FormatInt(d.upTo(p.ids+2), 10)
	switch d.upTo(4) {
	case 0:
		return "state"
	case 1:
		return "get " + id
	}
	return "rank " + id + " " + impl.VecText(d.vectorFar(p))
}

// spread puts blanks at the ends of a line and between its words.
func (d *dice) spread(line string) string {
	words := strings.Split(line, " ")
	for at := range words {
		words[at] = strings.Repeat(" ", int(d.upTo(2)*d.upTo(3))) + words[at]
	}
	return strings.Join(words, " ") + strings.Repeat(" ", int(d.upTo(2)*d.upTo(3)))
}

func (d *dice) line(p plan) string {
	line := d.asking(p)
	if d.upTo(3) > 0 {
		if c := d.cmd(p); cmdAsTold(c) {
			line = impl.CmdText(c)
		}
	}
	switch d.upTo(12) {
	case 0:
		return strings.Repeat(" ", int(d.upTo(4)))
	case 1:
		return d.bend(line, "  019-,.\t\xff")
	case 2, 3:
		return d.spread(line)
	}
	return line
}

// lines are of a script that is not too long.
func (d *dice) lines(p plan, count int) []string {
	l := []string{"dim " + strconv.Itoa(p.dim)}
	if d.upTo(4) == 0 {
		l = []string{d.line(p), l[0]}
	}
	for len(l) < count {
		line := d.line(p)
		if len(script(append(l, line)...)) > impl.MaxText {
			break
		}
		l = append(l, line)
	}
	return l
}

func tryScripts(seed uint64, times int, count int, try func(d *dice, p plan, lines []string)) {
	d := &dice{seed}
	for range times {
		for _, p := range plans() {
			try(d, p, d.lines(p, count))
		}
	}
}

func TestScriptGoesAsTold(t *testing.T) {
	count := map[string]int{}
	tryScripts(141, 40, impl.MaxScript, func(d *dice, p plan, lines []string) {
		for line := range strings.Lines(holdsScript(t, script(lines...))) {
			words := strings.Fields(line)
			count[words[0]]++
			if words[0] == "no" {
				count["no "+words[1]]++
			}
			if words[0] == "ok" && len(words) > 1 {
				count["found"]++
			}
		}
	})
	for _, word := range []string{"ok", "no 2", "no 4", "no 5", "what", "none", "dim", "found"} {
		if count[word] < 100 {
			t.Error("too few lines say", word, count)
		}
	}
}

func TestPromise14WhatWasSaidStaysSaid(t *testing.T) {
	tryScripts(142, 5, impl.MaxScript, func(d *dice, p plan, lines []string) {
		all := impl.RunScript(script(lines...))
		ahead := 0
		for at, line := range lines {
			said := impl.RunScript(script(lines[:at]...))
			if !strings.HasPrefix(all, said) || strings.Count(said, "\n") != ahead {
				t.Fatalf("%q\nsays %q\nand  %q", lines[:at], said, all)
			}
			if strings.Trim(line, " ") != "" {
				ahead++
			}
		}
	})
}

// doing is the lines that were done, and change what is there.
func doing(lines []string) []string {
	l := []string{}
	said := strings.Split(impl.RunScript(script(lines...)), "\n")
	for _, line := range lines {
		words := wordsAsTold(line)
		if len(words) == 0 {
			continue
		}
		if said[0] == "ok" {
			l = append(l, line)
		}
		said = said[1:]
	}
	return l
}

func TestPromise14LinesThatAskChangeNothing(t *testing.T) {
	tryScripts(143, 10, 40, func(d *dice, p plan, lines []string) {
		kept := doing(lines)
		last := []string{"state"}
		for id := int64(1); id <= 15; id++ {
			last = append(last, "get "+strconv.FormatInt(1+(id-1)%p.ids, 10))
		}
		last = append(last, "near 20 0 0 "+impl.VecText(d.vectorFar(p)), "within 1125899906842624 0 5 "+impl.VecText(d.vectorFar(p)))
		whole, short := slices.Concat(lines, last), slices.Concat(kept, last)
		if len(script(whole...)) > impl.MaxText {
			return
		}
		all, few := impl.RunScript(script(whole...)), impl.RunScript(script(short...))
		want := strings.TrimPrefix(all, impl.RunScript(script(lines...)))
		if few != script(slices.Repeat([]string{"ok"}, len(kept))...)+want {
			t.Fatalf("%q\nsays %q\nand without what asks, or is refused, %q", whole, all, few)
		}
	})
}

// A line that asks says the same a second time, and all others what they said.
func TestPromise14AskedTwice(t *testing.T) {
	tryScripts(144, 5, 25, func(d *dice, p plan, lines []string) {
		twice, want := []string{}, ""
		said := strings.SplitAfter(impl.RunScript(script(lines...)), "\n")
		for _, line := range lines {
			words := wordsAsTold(line)
			if len(words) == 0 {
				continue
			}
			twice, want = append(twice, line), want+said[0]
			if c, ok := impl.ReadCmd(strings.Join(words, " ")); !ok || asks(c) {
				twice, want = append(twice, line), want+said[0]
			}
			said = said[1:]
		}
		if len(script(twice...)) > impl.MaxText {
			return
		}
		if got := impl.RunScript(script(twice...)); got != want {
			t.Fatalf("%q\nsays %q\nnot  %q", twice, got, want)
		}
	})
}

// Each form with a word left out at each place, and with one more at each.
func TestScriptOfTooFewAndTooManyWords(t *testing.T) {
	forms := []string{"dim 2", "put 1 0 5,5", "drop 1", "build", "tick 1", "near 1 0 0 5,5", "within 9 0 0 5,5", "get 1", "state", "rank 1 5,5"}
	start := []string{"dim 2", "put 1 0 5,5", "put 2 3 6,6", "build"}
	state := strings.TrimPrefix(impl.RunScript(script(append(start, "state")...)), "ok\nok\nok\nok\n")
	bent := func(words []string) {
		t.Helper()
		text := script(append(slices.Clone(start), strings.Join(words, " "), "state")...)
		if got := holdsScript(t, text); got != "ok\nok\nok\nok\nwhat\n"+state {
			t.Errorf("%q says %q", words, got)
		}
	}
	for _, form := range forms {
		words := strings.Split(form, " ")
		for at := range words {
			if len(words) > 1 {
				bent(slices.Delete(slices.Clone(words), at, at+1))
			}
		}
		for at := range len(words) + 1 {
			for _, more := range []string{"1", "5,5", "x", "state", "0"} {
				if at > 0 || more != "state" || len(words) > 1 {
					bent(slices.Insert(slices.Clone(words), at, more))
				}
			}
		}
	}
}

func TestScriptOfEachForm(t *testing.T) {
	says(t, "dim 2", "ok", "put 1 0 5,5", "ok", "put 3 2 25,-5", "ok", "put 1 1 6,6", "ok", "get 1", "1 1 6,6", "get 3", "3 2 25,-5", "drop 3", "ok", "get 3", "none", "drop 3", "no 4", "state", "dim 2 items 1 fresh 0 idle escaped 1")
	says(t, "dim 1", "ok", "put 1 0 0", "ok", "put 2 0 100", "ok", "tick 5", "no 4", "build", "ok", "build", "no 5", "put 3 0 200", "ok", "state", "dim 1 items 3 fresh 1 busy escaped 2",
		"tick 1", "ok", "state", "dim 1 items 3 fresh 2 busy escaped 2", "tick 1", "ok", "state", "dim 1 items 3 fresh 0 idle escaped 1", "build", "ok", "tick 60", "ok", "state", "dim 1 items 3 fresh 0 idle escaped 0")
	says(t, "dim 1", "ok", "put 1 0 0", "ok", "put 2 0 255", "ok", "build", "ok", "tick 2", "ok", "near 1 0 0 9", "ok open 0 left 1 1 1 hits 1:81",
		"near 2 0 1 9", "ok open 1 left 2 2 2 hits 1:81 2:60516", "near 2 0 2 9", "ok exact 2 left 2 2 2 hits 1:81 2:60516", "near 5 1 0 9", "ok exact 0 left 0 0 0 hits", "within 81 0 0 9", "ok exact 0 left 1 1 1 hits 1:81", "within 80 0 0 9", "ok exact 0 left 1 1 0 hits")
}

func TestScriptOfRefusals(t *testing.T) {
	says(t, "put 1 0 5", "no 2", "drop 1", "no 2", "build", "no 2", "tick 1", "no 2", "near 1 0 0 5", "no 2", "within 1 0 0 5", "no 2", "state", "dim 0 items 0 fresh 0 idle escaped 0",
		"dim 3", "ok", "dim 3", "no 2", "dim 8", "no 2", "put 1 0 5", "no 2", "put 1 0 5,5,5,5", "no 2", "near 1 0 0 5,5", "no 2", "within 1 0 0 5", "no 2", "drop 1", "no 4", "build", "no 4", "tick 1", "no 4", "state", "dim 3 items 0 fresh 0 idle escaped 0")
	// What is not of its form is no CmdText, and so no line.
	says(t, "dim 0", "what", "dim 9", "what", "dim 1", "ok", "put 0 0 5", "what", "put 10000 0 5", "what", "put 1 256 5", "what", "put 1 -1 5", "what", "put 1 0 1048577", "what", "put 1 0 1,", "what", "put 1 0 1,,2", "what", "drop 0", "what", "tick 0", "what", "tick 61", "what",
		"near 0 0 0 5", "what", "near 21 0 0 5", "what", "near 1 0 1001 5", "what", "within 1125899906842625 0 0 5", "what", "within -1 0 0 5", "what", "put 01 0 5", "what", "put 1 00 5", "what", "put 1 0 05", "what", "put +1 0 5", "what", "put 1 -0 5", "what", "state", "dim 1 items 0 fresh 0 idle escaped 0")
}

func TestScriptOfWordsThatAreNone(t *testing.T) {
	for _, line := range []string{"fly", "Get 1", "GET 1", "gets 1", "ge 1", "State", "states", "stat", "Rank 1 5", "ranks 1 5", "Dim 1", "what", "ok", "none", "no 2", "1", "1 0 5", "5", "-", ",", "get1", "rank1 5", "\x00", "state\x00", "get 1\x00", "\xff", "state\xff", "\xffstate", "get \xff", "get 1\xff", "rank 1 \xff", "rank 1 5\xff", "put 1 0 5\xff", "\ufffd", "\ufeffstate", "ｓtate", "get １", "rank 1 ５"} {
		says(t, "dim 1", "ok", "put 1 0 5", "ok", line, "what", "get 1", "1 0 5")
	}
}

// Blanks are 32 alone: each other white space is part of a word.
func TestScriptOfBlanks(t *testing.T) {
	says(t, " dim 2", "ok", "dim 2 ", "no 2", "   put   1  0    5,5   ", "ok", "  get  1", "1 0 5,5", "state  ", "dim 2 items 1 fresh 0 idle escaped 1", " rank 1   5,5 ", "0", "  near 1 0  9 5,5", "ok exact 1 left 1 1 1 hits 1:0",
		"", "", " ", "", "     ", "", " fly ", "what", "put 1 0 5, 5", "what", "put 1 0 5 ,5", "what", "g et 1", "what", strings.Repeat(" ", 1000)+"get"+strings.Repeat(" ", 1000)+"1", "1 0 5,5")
	for _, white := range []string{"\t", "\r", "\v", "\f", "\x00", "\u0085", "\u00a0", "\u2003", "\u3000", "\ufeff", "\xa0", "\x85"} {
		says(t, white, "what", " "+white+" ", "what", "state"+white, "what", white+"state", "what", "state "+white, "what", "get"+white+"1", "what", "get 1"+white, "what", "get "+white+"1", "what", "rank 1"+white+"5", "what", "dim"+white+"1", "what", "dim 1"+white, "what", "state", "dim 0 items 0 fresh 0 idle escaped 0")
	}
	if s := impl.RunScript("state\r\nstate\r\n"); s != "what\nwhat\n" {
		t.Errorf("%q", s)
	}
	for _, text := range []string{"\n", " \n", "\n\n\n", "  \n \n\n", strings.Repeat(" ", impl.MaxText-1) + "\n"} {
		if s := holdsScript(t, text); s != "" {
			t.Errorf("%.20q says %q", text, s)
		}
	}
}

func TestScriptOfIds(t *testing.T) {
	for _, id := range []string{"3", "4", "9998", "0", "-1", "-9999", "10000", "9999999999999999", "-9999999999999999", "1000000000000000"} {
		says(t, "get "+id, "none", "rank "+id+" 5", "none", "dim 1", "ok", "put 1 0 5", "ok", "put 9999 0 6", "ok", "get "+id, "none", "rank "+id+" 5", "none", "drop 1", "ok", "get 1", "none", "rank 1 5", "none", "get 9999", "9999 0 6", "rank 9999 5", "0")
	}
	for _, id := range []string{"x", "01", "001", "+1", "-0", "00", "-01", "--1", "-", "1.0", "1,", "1,2", "0x1", "1_0", "1e0", "10000000000000000", "-10000000000000000", "18446744073709551617", "00000000000000001", strings.Repeat("9", 300), "１", "1\xff"} {
		says(t, "get "+id, "what", "rank "+id+" 5", "what", "dim 1", "ok", "put 1 0 5", "ok", "get "+id, "what", "rank "+id+" 5", "what", "rank "+id+" x", "what", "rank 1 5", "0")
	}
}

func TestScriptOfRanks(t *testing.T) {
	says(t, "rank 1 5", "none", "dim 2", "ok", "rank 1 5,5", "none", "put 3 0 5,5", "ok", "put 1 9 5,6", "ok", "put 2 0 6,5", "ok", "put 9999 0 -1048576,1048576", "ok",
		"rank 3 5,5", "0", "rank 1 5,5", "1", "rank 2 5,5", "2", "rank 9999 5,5", "3", "rank 9999 -1048576,1048576", "0", "rank 4 5,5", "none",
		"rank 1 5", "none", "rank 1 5,5,5", "none", "rank 1 5,5,5,5,5,5,5,5", "none", "rank 4 5", "none",
		"rank 1 5,5,5,5,5,5,5,5,5", "what", "rank 1 x", "what", "rank 1 ,", "what", "rank 1 5,", "what", "rank 1 ,5", "what", "rank 1 5,,5", "what", "rank 1 05,5", "what", "rank 1 5,-0", "what", "rank 1 5,1048577", "what", "rank 1 -1048577,5", "what", "rank 4 x", "what", "rank 0 x", "what", "rank 0 5,5", "none")
}

func TestScriptOfManyLines(t *testing.T) {
	state := "dim 0 items 0 fresh 0 idle escaped 0\n"
	most := strings.Repeat("state\n", impl.MaxScript)
	for _, r := range [][2]string{
		{"", ""},
		{"state\n", state},
		{most, strings.Repeat(state, impl.MaxScript)},
		{most + "state\n", "too long\n"},
		{most + "\n", "too long\n"},
		{most + " ", "too long\n"},
		{most + "state", "too long\n"},
		{"\n" + most, "too long\n"},
		{strings.Repeat("state\n", impl.MaxScript-1) + "\n", strings.Repeat(state, impl.MaxScript-1)},
		{strings.Repeat("state\n", impl.MaxScript-1) + "state", "too long\n"},
		{strings.Repeat("\n", impl.MaxScript), ""},
		{strings.Repeat("\n", impl.MaxScript+1), "too long\n"},
		{strings.Repeat("\n", impl.MaxText), "too long\n"},
		{"state", "too long\n"},
		{" ", "too long\n"},
		{"x", "too long\n"},
		{"\xff", "too long\n"},
		{"state\nstate", "too long\n"},
		{"state\n ", "too long\n"},
		{"state\r", "too long\n"},
	} {
		if s := holdsScript(t, r[0]); s != r[1] {
			t.Errorf("%q says %q", r[0], s)
		}
	}
}

func TestScriptOfManyBytes(t *testing.T) {
	for _, count := range []int{impl.MaxText - 1, impl.MaxText, impl.MaxText + 1, impl.MaxText + 2, 100000} {
		state, what, none := "dim 0 items 0 fresh 0 idle escaped 0\n", "what\n", ""
		if count > impl.MaxText {
			state, what, none = "too long\n", "too long\n", "too long\n"
		}
		for text, want := range map[string]string{
			"state" + strings.Repeat(" ", count-6) + "\n":             state,
			strings.Repeat(" ", count-6) + "state\n":                  state,
			"state\n" + strings.Repeat(" ", count-7) + "\n":           state,
			strings.Repeat(" ", count-1) + "\n":                       none,
			strings.Repeat("x", count-1) + "\n":                       what,
			strings.Repeat("\xff", count-1) + "\n":                    what,
			"get " + strings.Repeat("1", count-5) + "\n":              what,
			"rank 1 1" + strings.Repeat(",1", count)[:count-9] + "\n": what,
		} {
			if len(text) != count {
				t.Fatal("not so many bytes", len(text), count)
			}
			if s := holdsScript(t, text); s != want {
				t.Errorf("%d bytes, %.10q: %q", count, text, s)
			}
		}
	}
	// Bytes count, not runes: of two bytes each these are too many.
	if s := impl.RunScript(strings.Repeat("é", impl.MaxText/2) + "\n"); s != "too long\n" {
		t.Errorf("%q", s)
	}
}

// As many commands as lines leave room for, with vectors as wide as they are.
func TestScriptOfManyItems(t *testing.T) {
	lines := []string{"dim 1"}
	for id := 1; id <= 54; id++ {
		lines = append(lines, "put "+strconv.Itoa(id)+" 0 "+strconv.Itoa(1000*id))
	}
	lines = append(lines, "within 1125899906842624 0 1000 0", "build", "tick 60", "near 20 0 1000 7500", "state")
	said := strings.Split(holdsScript(t, script(lines...)), "\n")
	if len(lines) != impl.MaxScript || len(said) != impl.MaxScript+1 || said[59] != "dim 1 items 54 fresh 0 idle escaped 0" {
		t.Fatal(len(lines), said)
	}
	if words := strings.Split(said[55], " "); words[1] != "exact" || len(words) != 8+54 {
		t.Error(said[55])
	}
	if words := strings.Split(said[58], " "); words[1] != "exact" || len(words) != 8+20 || words[8] != "7:250000" || words[9] != "8:250000" {
		t.Error(said[58])
	}
}

// Bytes are bent all over a script, line feeds too.
func TestScriptsThatAreBent(t *testing.T) {
	tryScripts(145, 40, 20, func(d *dice, p plan, lines []string) {
		text := script(lines...)
		for range 1 + d.upTo(4) {
			if text != "" {
				text = d.bend(text, "\n\n   0129-,.dgst\t\r\xff")
			}
		}
		holdsScript(t, text)
		holdsScript(t, text+"\n")
	})
}

func TestPromise15ScriptsSayTheSame(t *testing.T) {
	first := map[string]string{}
	for range 2 {
		tryScripts(146, 3, impl.MaxScript, func(d *dice, p plan, lines []string) {
			text := script(lines...)
			said := impl.RunScript(text)
			if kept, ok := first[text]; ok && kept != said {
				t.Fatalf("%q\nsays %q\nthen %q", text, kept, said)
			}
			first[text] = said
		})
	}
	// Nothing of one script is there in the next one.
	for range 2 {
		says(t, "state", "dim 0 items 0 fresh 0 idle escaped 0", "dim 1", "ok", "get 1", "none", "put 1 0 5", "ok", "build", "ok")
	}
}
