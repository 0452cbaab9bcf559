package tests

import (
	"encoding/binary"
	"hash/crc32"
	"slices"
	"strconv"
	"strings"
	"testing"

	"loop.example/g00707/impl"
)

// frameAsTold leans on the library's own sum.
func frameAsTold(data string) string {
	head := binary.BigEndian.AppendUint32(nil, uint32(len(data)))
	head = binary.LittleEndian.AppendUint32(head, crc32.ChecksumIEEE([]byte(data)))
	return string(head) + data
}

func takeAsTold(s string) ([]string, int64) {
	l, end := []string{}, int64(0)
	for len(s) >= 8 {
		size := int64(binary.BigEndian.Uint32([]byte(s[:4])))
		if size > 100000 || int64(len(s)) < 8+size || frameAsTold(s[8:8+size]) != s[:8+size] {
			break
		}
		l, s, end = append(l, s[8:8+size]), s[8+size:], end+8+size
	}
	return l, end
}

// countedAsTold is the commands of a log, and whether it is good.
func countedAsTold(log string) ([]impl.Cmd, string, bool) {
	l, counts := []impl.Cmd{}, ""
	frames, _ := takeAsTold(log)
	for at, data := range frames {
		ahead := strconv.Itoa(at) + " "
		c, ok := impl.ReadCmd(strings.TrimPrefix(data, ahead))
		if !ok || !strings.HasPrefix(data, ahead) || at == 120 {
			break
		}
		l = append(l, c)
		counts += frameAsTold(data)
	}
	return l, counts, counts == log
}

// storeAsTold goes by the document's words, step by step.
func storeAsTold(d impl.Disk, a impl.Act) (impl.Disk, int64) {
	if !diskAsTold(d) {
		return impl.Disk{}, impl.StDisk
	}
	start := d
	if a.Kind == impl.AcCrash {
		left, ok := crashAsTold(d, a.Keep, a.Torn)
		if !ok {
			return d, impl.StForm
		}
		start = left
		a.Kind = impl.AcOpen
	}
	log, there := toldFilesOf(start.Live)["log"]
	list, counts, good := countedAsTold(log)
	const doSync = 9
	steps := []impl.DOp{}
	switch a.Kind {
	case impl.AcNew:
		if there {
			return start, impl.StForm
		}
		steps = append(steps, appendOp("log", ""), impl.DOp{Kind: doSync})
	case impl.AcAdd:
		switch {
		case !there:
			return start, impl.StNone
		case !impl.CmdOk(a.C):
			return start, impl.StForm
		case !good:
			return start, impl.StTorn
		case len(list) == 120:
			return start, impl.StFull
		}
		steps = append(steps, appendOp("log", frameAsTold(strconv.Itoa(len(list))+" "+impl.CmdText(a.C))))
		if a.Sync {
			steps = append(steps, impl.DOp{Kind: doSync})
		}
	case impl.AcOpen:
		if !there {
			return start, impl.StNone
		}
		if good {
			return start, impl.StOk
		}
		if _, other := toldFilesOf(start.Live)["log.new"]; other {
			steps = append(steps, removeOp("log.new"))
		}
		steps = append(steps, appendOp("log.new", counts), impl.DOp{Kind: doSync}, renameOp("log.new", "log"), impl.DOp{Kind: doSync})
	default:
		return start, impl.StForm
	}
	now := start
	for at, op := range steps {
		if int64(at) == a.Power {
			return now, impl.StPower
		}
		code := int64(impl.DkOk)
		if op.Kind == doSync {
			now = syncAsTold(now)
		} else if now, code = doAsTold(now, op); code != impl.DkOk {
			return start, impl.StFull
		}
	}
	return now, impl.StOk
}

func TestFramesAsTold(t *testing.T) {
	if f := impl.FrameOf("123456789"); f != "\x00\x00\x00\x09\x26\x39\xf4\xcb123456789" {
		t.Errorf("%q", f)
	}
	if f := impl.FrameOf(""); f != strings.Repeat("\x00", 8) {
		t.Errorf("%q", f)
	}
	d := &dice{120}
	for size := range 600 {
		data := make([]byte, size)
		for at := range data {
			data[at] = byte(d.upTo(256))
		}
		if f := impl.FrameOf(string(data)); f != frameAsTold(string(data)) {
			t.Fatal("a frame of bytes", size)
		}
	}
	for size := range 256 {
		if s := strings.Repeat(string([]byte{byte(size)}), 1+size); impl.FrameOf(s) != frameAsTold(s) {
			t.Fatal("a frame of one byte, over and over", size)
		}
	}
}

func TestFramesOfMuch(t *testing.T) {
	much := strings.Repeat("abcdefghij", 10000)
	for _, data := range []string{much, much[1:], much[:65536], much[:65535]} {
		f := impl.FrameOf(data)
		if f != frameAsTold(data) {
			t.Error("a frame of much", len(data))
		}
		if l, end := impl.TakeFrames(f + "x"); len(l) != 1 || l[0] != data || end != int64(len(f)) {
			t.Error("much is taken", len(data), end)
		}
	}
	if f := impl.FrameOf(much + "x"); f != "" {
		t.Error("a frame of too much", len(f))
	}
	if l, end := impl.TakeFrames(impl.FrameOf("a") + frameAsTold(much+"x") + impl.FrameOf("b")); !slices.Equal(l, []string{"a"}) || end != 9 {
		t.Error("too much is no frame", len(l), end)
	}
	many := strings.Repeat(impl.FrameOf("x")+impl.FrameOf(""), 5000)
	if l, end := impl.TakeFrames(many); len(l) != 10000 || end != int64(len(many)) {
		t.Error("many frames", len(l), end)
	}
}

func TestTakeFramesThatAreCut(t *testing.T) {
	parts := []string{"abc", "", "0 dim 3", strings.Repeat("z", 300)}
	s, ends := "", []int{0}
	for _, data := range parts {
		s += impl.FrameOf(data)
		ends = append(ends, len(s))
	}
	for cut := range len(s) + 1 {
		count := 0
		for count < len(parts) && ends[count+1] <= cut {
			count++
		}
		if l, end := impl.TakeFrames(s[:cut]); !slices.Equal(l, parts[:count]) || end != int64(ends[count]) {
			t.Fatal("cut at", cut, "took", len(l), end)
		}
	}
	for count, end := range ends {
		for _, more := range []string{"\x00", "x", "\x00\x00\x00\x00\x00\x00\x00"} {
			if l, n := impl.TakeFrames(s[:end] + more); !slices.Equal(l, parts[:count]) || n != int64(end) {
				t.Fatal("bytes too many behind", count, "took", len(l), n)
			}
		}
	}
	if l, end := impl.TakeFrames(""); len(l) != 0 || end != 0 {
		t.Error("of nothing", l, end)
	}
}

// Each byte of a frame counts: turned by any bit it is no frame.
func TestTakeFramesThatAreTurned(t *testing.T) {
	f, ahead, behind := impl.FrameOf("0 put 1 2 3,-4"), impl.FrameOf("first"), impl.FrameOf("last")
	for at := range len(f) {
		for bit := range 8 {
			turned := []byte(f)
			turned[at] ^= 1 << bit
			l, end := impl.TakeFrames(ahead + string(turned) + behind)
			if !slices.Equal(l, []string{"first"}) || end != int64(len(ahead)) {
				t.Fatal("turned at", at, bit, "took", l, end)
			}
		}
	}
	for _, wrong := range []string{
		"\x00\x00\x00\x03\x35\x24\x41\xc2abc", // the sum turned round
		"\x03\x00\x00\x00\xc2\x41\x24\x35abc", // the length turned round
		"\xc2\x41\x24\x35\x00\x00\x00\x03abc",
		"\xff\xff\xff\xff\xc2\x41\x24\x35abc",
		"\x80\x00\x00\x03\xc2\x41\x24\x35abc",
		"\x00\x00\x00\x04\xc2\x41\x24\x35abc",
		"\x00\x00\x00\x02\xc2\x41\x24\x35abc",
		"abcabcabcabc",
	} {
		if l, end := impl.TakeFrames(wrong + behind); len(l) != 0 || end != 0 {
			t.Errorf("%q took %v", wrong, l)
		}
	}
}

func TestTakeFramesAsTold(t *testing.T) {
	d := &dice{121}
	for range 3000 {
		s := ""
		for range d.upTo(5) {
			s += impl.FrameOf(strings.Repeat(string([]byte{byte(d.upTo(256))}), int(d.upTo(4))))
		}
		b := []byte(s)
		if len(b) > 0 && d.upTo(2) == 0 {
			b[d.upTo(int64(len(b)))] = byte(d.upTo(4))
		}
		want, wantEnd := takeAsTold(string(b))
		if l, end := impl.TakeFrames(string(b)); !slices.Equal(l, want) || end != wantEnd {
			t.Fatalf("%q took %v %v", b, l, end)
		}
	}
}

// logOf is a log of these texts, each with its number ahead.
func logOf(texts ...string) string {
	s := ""
	for at, text := range texts {
		s += impl.FrameOf(strconv.Itoa(at) + " " + text)
	}
	return s
}

func logDisk(log string) impl.Disk {
	return synced(impl.File{Name: "log", Data: log})
}

func fewTexts() []string {
	return []string{"dim 2", "put 5 1 3,4", "put 2 0 0,0", "build", "near 1 0 9 1,1", "within 25 0 9 0,0", "tick 1", "drop 9", "tick 60"}
}

// manyTexts are commands that fill a log.
func manyTexts(count int) []string {
	l := []string{"dim 1"}
	for n := 1; n < count; n++ {
		l = append(l, "put "+strconv.Itoa(1+n%70)+" 0 "+strconv.Itoa(n))
	}
	return l
}

func TestStoreViewOfGoodLogs(t *testing.T) {
	texts := fewTexts()
	for count := range len(texts) + 1 {
		if l, code := impl.StoreView(logDisk(logOf(texts[:count]...))); code != impl.StOk || !sameCmds(l, cmdsOf(t, texts[:count]...)) {
			t.Error("a log of", count, code, l)
		}
	}
	for _, c := range edgeCmds()[:60] {
		if l, code := impl.StoreView(logDisk(logOf(impl.CmdText(c)))); code != impl.StOk || !sameCmds(l, []impl.Cmd{c}) {
			t.Error("a log of", impl.CmdText(c), code, l)
		}
	}
	for at, d := range wrongDisks() {
		if l, code := impl.StoreView(d); code != impl.StDisk || len(l) != 0 {
			t.Error("a disk is not right", at, code)
		}
	}
	for _, d := range []impl.Disk{{}, synced(impl.File{Name: "log.new"}), synced(impl.File{Name: "Log"}), synced(impl.File{Name: "logs"})} {
		if l, code := impl.StoreView(d); code != impl.StNone || len(l) != 0 {
			t.Error("there is no log", code, brief(d))
		}
	}
	unsynced := done(t, impl.Disk{}, appendOp("log", logOf("dim 1")))
	if l, code := impl.StoreView(unsynced); code != impl.StOk || len(l) != 1 {
		t.Error("the log that is seen", code, l)
	}
	gone := done(t, logDisk(logOf("dim 1")), removeOp("log"))
	if l, code := impl.StoreView(gone); code != impl.StNone || len(l) != 0 {
		t.Error("a log that is gone", code, l)
	}
}

// tornLogs are not good; count tells how many of their commands do.
func tornLogs() []struct {
	log   string
	count int
} {
	type torn = struct {
		log   string
		count int
	}
	good := logOf("dim 2", "put 5 1 3,4")
	l := []torn{}
	for _, data := range []string{
		"", "2", "2 ", " build", "build", "2build", "2  build", "2 build ", " 2 build", "2\tbuild", "2,build",
		"02 build", "002 build", "+2 build", "-2 build", "2. build", "0x2 build", "two build",
		"1 build", "3 build", "0 build", "22 build", "258 build", "-0 build",
		"2 builds", "2 Build", "2 dim 0", "2 dim 9", "2 dim 01", "2 put 5 1", "2 put 5 256 3,4", "2 put 5 1 3,4,", "2 dim 2\n", "2 tick 1 2",
	} {
		l = append(l, torn{good + impl.FrameOf(data), 2}, torn{good + impl.FrameOf(data) + impl.FrameOf("2 build") + impl.FrameOf("3 build"), 2})
	}
	last := impl.FrameOf("2 build")
	for cut := 1; cut < len(last); cut++ {
		l = append(l, torn{good + last[:cut], 2})
	}
	l = append(l,
		torn{good + "x", 2},
		torn{good + "\x00", 2},
		torn{good + strings.Repeat("\x00", 8), 2},
		torn{good + last[:len(last)-1] + last, 2},
		torn{good + impl.FrameOf("3 build") + last, 2},
		torn{impl.FrameOf("1 build"), 0},
		torn{impl.FrameOf("00 build"), 0},
		torn{impl.FrameOf("-0 build"), 0},
		torn{"0 build", 0},
		torn{"x", 0},
		torn{last, 0},
		torn{logOf(manyTexts(impl.MaxCmds + 1)...), impl.MaxCmds},
		torn{logOf(manyTexts(impl.MaxCmds + 5)...), impl.MaxCmds},
		torn{logOf(manyTexts(impl.MaxCmds)...) + "x", impl.MaxCmds},
	)
	for _, wrong := range []string{"\x00\x00\x00\x08", "\x00\x00\x00\x06", "\x00\x01\x86\xa1", "\xff\xff\xff\xff"} {
		l = append(l, torn{good + wrong + last[4:], 2}, torn{good + wrong + last[4:] + last, 2})
	}
	turned := []byte(last)
	turned[5] ^= 1
	return append(l, torn{good + string(turned), 2}, torn{good + string(turned) + last, 2})
}

func TestStoreViewOfTornLogs(t *testing.T) {
	for at, one := range tornLogs() {
		want, counts, good := countedAsTold(one.log)
		if good || len(want) != one.count || !strings.HasPrefix(one.log, counts) {
			t.Error("told otherwise", at, good, len(want))
		}
		d := logDisk(one.log)
		if l, code := impl.StoreView(d); code != impl.StOk || !sameCmds(l, want) {
			t.Error("a torn log", at, code, len(l), "not", one.count)
		}
		add := impl.Act{Kind: impl.AcAdd, C: impl.Cmd{Kind: impl.CmBuild}, Power: -1}
		if e, code := impl.StoreDo(d, add); code != impl.StTorn || !sameDisk(e, d) {
			t.Error("a torn log takes no command", at, code)
		}
		e, code := impl.StoreDo(d, impl.Act{Kind: impl.AcOpen, Power: -1})
		if code != impl.StOk || !sameDisk(e, logDisk(counts)) {
			t.Error("a torn log, opened", at, code, brief(e))
		}
		wantCode := int64(impl.StOk)
		if one.count == impl.MaxCmds {
			wantCode = impl.StFull
		}
		f, code := impl.StoreDo(e, add)
		if l, _ := impl.StoreView(f); code != wantCode || code == impl.StOk && !sameCmds(l, append(want, add.C)) {
			t.Error("a command behind that", at, code, len(l))
		}
	}
}

// holdsAct holds an act against the document's words, and hands on the disk.
func holdsAct(t *testing.T, d impl.Disk, a impl.Act) (impl.Disk, int64) {
	t.Helper()
	want, wantCode := storeAsTold(d, a)
	got, code := impl.StoreDo(d, a)
	if code != wantCode || !sameDisk(got, want) {
		t.Fatal("an act of kind", a.Kind, "power", a.Power, a.Keep, a.Torn, "told", code, "not", wantCode, brief(got), "not", brief(want))
	}
	return got, code
}

func TestStoreDoTellsEachCode(t *testing.T) {
	build, wrong := impl.Cmd{Kind: impl.CmBuild}, impl.Cmd{Kind: impl.CmDim}
	good, torn := logDisk(logOf("dim 1")), logDisk(logOf("dim 1")+"x")
	full, over := logDisk(logOf(manyTexts(120)...)), logDisk(logOf(manyTexts(121)...))
	other := synced(impl.File{Name: "log.new", Data: "x"})
	fresh := done(t, impl.Disk{}, appendOp("log", logOf("dim 1")))
	gone := done(t, good, removeOp("log"))
	for at, one := range []struct {
		d    impl.Disk
		a    impl.Act
		code int64
	}{
		{impl.Disk{}, impl.Act{Kind: impl.AcNew, Power: -1}, impl.StOk},
		{other, impl.Act{Kind: impl.AcNew, Power: -1}, impl.StOk},
		{gone, impl.Act{Kind: impl.AcNew, Power: -1}, impl.StOk},
		{good, impl.Act{Kind: impl.AcNew, Power: -1}, impl.StForm},
		{torn, impl.Act{Kind: impl.AcNew}, impl.StForm},
		{fresh, impl.Act{Kind: impl.AcNew, Power: -1}, impl.StForm},
		{good, impl.Act{Kind: impl.AcAdd, C: build, Power: -1}, impl.StOk},
		{good, impl.Act{Kind: impl.AcAdd, C: build, Power: -1, Sync: true}, impl.StOk},
		{impl.Disk{}, impl.Act{Kind: impl.AcAdd, C: build, Power: -1}, impl.StNone},
		{impl.Disk{}, impl.Act{Kind: impl.AcAdd, C: wrong}, impl.StNone},
		{gone, impl.Act{Kind: impl.AcAdd, C: build, Power: -1}, impl.StNone},
		{good, impl.Act{Kind: impl.AcAdd, C: wrong}, impl.StForm},
		{torn, impl.Act{Kind: impl.AcAdd, C: wrong, Power: -1}, impl.StForm},
		{full, impl.Act{Kind: impl.AcAdd, C: wrong, Power: -1}, impl.StForm},
		{torn, impl.Act{Kind: impl.AcAdd, C: build}, impl.StTorn},
		{over, impl.Act{Kind: impl.AcAdd, C: build, Power: -1}, impl.StTorn},
		{full, impl.Act{Kind: impl.AcAdd, C: build}, impl.StFull},
		{logDisk(logOf(manyTexts(119)...)), impl.Act{Kind: impl.AcAdd, C: build, Power: -1}, impl.StOk},
		{impl.Disk{}, impl.Act{Kind: impl.AcOpen, Power: -1}, impl.StNone},
		{other, impl.Act{Kind: impl.AcOpen, Power: -1}, impl.StNone},
		{gone, impl.Act{Kind: impl.AcOpen}, impl.StNone},
		{good, impl.Act{Kind: impl.AcOpen, Power: -1}, impl.StOk},
		{good, impl.Act{Kind: impl.AcOpen}, impl.StOk},
		{torn, impl.Act{Kind: impl.AcOpen, Power: -1}, impl.StOk},
		{torn, impl.Act{Kind: impl.AcOpen}, impl.StPower},
		{over, impl.Act{Kind: impl.AcOpen, Power: -1}, impl.StOk},
		{good, impl.Act{Kind: impl.AcCrash, Power: -1}, impl.StOk},
		{good, impl.Act{Kind: impl.AcCrash}, impl.StOk},
		{torn, impl.Act{Kind: impl.AcCrash, Power: -1}, impl.StOk},
		{impl.Disk{}, impl.Act{Kind: impl.AcCrash, Power: -1}, impl.StNone},
		{fresh, impl.Act{Kind: impl.AcCrash, Power: -1}, impl.StNone},
		{fresh, impl.Act{Kind: impl.AcCrash, Power: -1, Keep: []int64{0}, Torn: 99}, impl.StOk},
		{fresh, impl.Act{Kind: impl.AcCrash, Power: -1, Keep: []int64{0}}, impl.StOk},
		{gone, impl.Act{Kind: impl.AcCrash, Power: -1}, impl.StOk},
		{gone, impl.Act{Kind: impl.AcCrash, Power: -1, Keep: []int64{0}}, impl.StNone},
		{good, impl.Act{Kind: impl.AcCrash, Power: -1, Keep: []int64{0}}, impl.StForm},
		{fresh, impl.Act{Kind: impl.AcCrash, Power: -1, Keep: []int64{1}}, impl.StForm},
		{fresh, impl.Act{Kind: impl.AcCrash, Power: -1, Keep: []int64{0, 0}}, impl.StForm},
		{fresh, impl.Act{Kind: impl.AcCrash, Power: -1, Torn: -1}, impl.StForm},
		{impl.Disk{}, impl.Act{Kind: impl.AcCrash, Power: -1, Torn: -1}, impl.StForm},
		{good, impl.Act{Power: -1}, impl.StForm},
		{good, impl.Act{Kind: 5, Power: -1}, impl.StForm},
		{good, impl.Act{Kind: -1}, impl.StForm},
		{impl.Disk{}, impl.Act{Kind: 1<<32 + 1, Power: -1}, impl.StForm},
		{impl.Disk{}, impl.Act{Kind: 1<<63 - 1, Power: -1}, impl.StForm},
		{wrongDisks()[0], impl.Act{Kind: impl.AcNew, Power: -1}, impl.StDisk},
		{wrongDisks()[0], impl.Act{Kind: 5, Power: -1}, impl.StDisk},
	} {
		if _, code := holdsAct(t, one.d, one.a); code != one.code {
			t.Error(at, "told", code, "not", one.code)
		}
	}
	for at, d := range wrongDisks() {
		for kind := int64(0); kind < 6; kind++ {
			if e, code := impl.StoreDo(d, impl.Act{Kind: kind, C: build, Power: -1}); code != impl.StDisk || !isZeroDisk(e) {
				t.Error("a disk is not right", at, kind, code)
			}
		}
	}
}

// What belongs to another Kind is not asked.
func TestStoreDoTakesNoHeedOfOtherFields(t *testing.T) {
	good := logDisk(logOf("dim 1"))
	odd := impl.Act{C: impl.Cmd{Kind: 99, A: -1}, Sync: true, Power: -5, Keep: []int64{3, 2}, Torn: -9}
	odd.Kind = impl.AcOpen
	if _, code := holdsAct(t, good, odd); code != impl.StOk {
		t.Error("open", code)
	}
	odd.Kind = impl.AcNew
	if _, code := holdsAct(t, impl.Disk{}, odd); code != impl.StOk {
		t.Error("new", code)
	}
	odd.Kind, odd.C = impl.AcAdd, impl.Cmd{Kind: impl.CmBuild}
	if _, code := holdsAct(t, good, odd); code != impl.StOk {
		t.Error("add", code)
	}
	odd.Kind, odd.C, odd.Keep, odd.Torn = impl.AcCrash, impl.Cmd{Kind: 99}, nil, 0
	if _, code := holdsAct(t, good, odd); code != impl.StOk {
		t.Error("crash", code)
	}
}

func TestStoreDoStepByStep(t *testing.T) {
	frame := impl.FrameOf("1 build")
	first := impl.File{Name: "log", Data: logOf("dim 1")}
	empty := impl.File{Name: "log"}
	longer := impl.File{Name: "log", Data: first.Data + frame}
	torn := impl.File{Name: "log", Data: first.Data + frame[:9]}
	spare := impl.File{Name: "log.new", Data: "old"}
	ready := impl.File{Name: "log.new", Data: first.Data}
	files := func(l ...impl.File) []impl.File { return l }
	open := []impl.Disk{
		synced(torn),
		{Live: files(torn, ready), Safe: files(torn), Ops: []impl.DOp{appendOp("log.new", first.Data)}},
		synced(torn, ready),
		{Live: files(first), Safe: files(torn, ready), Ops: []impl.DOp{renameOp("log.new", "log")}},
		synced(first),
	}
	again := append([]impl.Disk{
		synced(torn, spare),
		{Live: files(torn), Safe: files(torn, spare), Ops: []impl.DOp{removeOp("log.new")}},
		{Live: files(torn, ready), Safe: files(torn, spare), Ops: []impl.DOp{removeOp("log.new"), appendOp("log.new", first.Data)}},
	}, open[2:]...)
	for at, one := range []struct {
		a    impl.Act
		want []impl.Disk
	}{
		{impl.Act{Kind: impl.AcNew}, []impl.Disk{{}, {Live: files(empty), Ops: []impl.DOp{appendOp("log", "")}}, synced(empty)}},
		{impl.Act{Kind: impl.AcAdd, C: impl.Cmd{Kind: impl.CmBuild}}, []impl.Disk{synced(first), {Live: files(longer), Safe: files(first), Ops: []impl.DOp{appendOp("log", frame)}}}},
		{impl.Act{Kind: impl.AcAdd, C: impl.Cmd{Kind: impl.CmBuild}, Sync: true}, []impl.Disk{synced(first), {Live: files(longer), Safe: files(first), Ops: []impl.DOp{appendOp("log", frame)}}, synced(longer)}},
		{impl.Act{Kind: impl.AcOpen}, open},
		{impl.Act{Kind: impl.AcCrash}, open},
		{impl.Act{Kind: impl.AcOpen}, again},
		{impl.Act{Kind: impl.AcCrash}, again},
		{impl.Act{Kind: impl.AcOpen}, []impl.Disk{synced(first, spare)}},
	} {
		last := int64(len(one.want) - 1)
		for _, power := range []int64{0, 1, 2, 3, 4, 5, 6, 7, 1<<63 - 1, -1, -2, -1 << 63} {
			want, wantCode := one.want[last], int64(impl.StOk)
			if power >= 0 && power < last {
				want, wantCode = one.want[power], impl.StPower
			}
			a := one.a
			a.Power = power
			if e, code := impl.StoreDo(one.want[0], a); code != wantCode || !sameDisk(e, want) {
				t.Error(at, "power", power, "told", code, "not", wantCode, brief(e), "not", brief(want))
			}
		}
	}
}

// Where a step is refused all that the act did ahead of it is undone.
func TestStoreDoWithRefusedSteps(t *testing.T) {
	good, torn := logOf("dim 1"), logOf("dim 1")+"x"
	fill := func(log string, other string) []impl.File {
		l := []impl.File{{Name: "log", Data: log}}
		if other != "" {
			l = append(l, impl.File{Name: "log.new", Data: other})
		}
		return append(l, impl.File{Name: "rest", Data: strings.Repeat("x", impl.MaxBytes-len(log)-len(other))})
	}
	busy := func(d impl.Disk, count int) impl.Disk {
		d.Ops = slices.Repeat([]impl.DOp{appendOp("log", "")}, count)
		return d
	}
	many := numberedFiles(impl.MaxFiles-1, "")
	crowd := append(slices.Clone(many), impl.File{Name: "log", Data: torn})
	add, open := impl.Act{Kind: impl.AcAdd, C: impl.Cmd{Kind: impl.CmBuild}, Sync: true}, impl.Act{Kind: impl.AcOpen}
	crash := impl.Act{Kind: impl.AcCrash}
	for at, one := range []struct {
		d     impl.Disk
		a     impl.Act
		power int64 // from which on a step is refused; -1 where none is
	}{
		{synced(append(slices.Clone(many), impl.File{Name: "z"})...), impl.Act{Kind: impl.AcNew}, 1},
		{synced(many...), impl.Act{Kind: impl.AcNew}, -1},
		{busy(logDisk(good), impl.MaxOps), add, 1},
		{busy(logDisk(good), impl.MaxOps-1), add, -1},
		{synced(fill(good, "")...), add, 1},
		{synced(fill(good+impl.FrameOf("1 build"), "")...), impl.Act{Kind: impl.AcAdd, C: impl.Cmd{Kind: impl.CmBuild}}, 1},
		{synced(fill(torn, "")...), open, 1},
		{synced(fill(torn, "old")...), open, 2},
		{synced(fill(torn, good)...), open, -1},
		{synced(fill("x", "")...), open, -1},
		{synced(crowd...), open, 1},
		{synced(crowd[1:]...), open, -1},
		{busy(logDisk(torn), impl.MaxOps), open, 1},
		{busy(logDisk(torn), impl.MaxOps-1), open, -1},
		{busy(synced(impl.File{Name: "log", Data: torn}, impl.File{Name: "log.new"}), impl.MaxOps), open, 1},
		{busy(synced(impl.File{Name: "log", Data: torn}, impl.File{Name: "log.new"}), impl.MaxOps-1), open, 2},
		{busy(synced(impl.File{Name: "log", Data: torn}, impl.File{Name: "log.new"}), impl.MaxOps-2), open, -1},
		{busy(synced(fill(torn, "old")...), 3), crash, 2},
		{busy(synced(crowd...), 3), crash, 1},
		{busy(logDisk(torn), impl.MaxOps), crash, -1},
	} {
		for _, power := range []int64{0, 1, 2, 3, 9, -1} {
			a := one.a
			a.Power = power
			e, code := holdsAct(t, one.d, a)
			refused := one.power >= 0 && (power < 0 || power >= one.power)
			if refused != (code == impl.StFull) {
				t.Error(at, "power", power, "told", code)
			}
			want := one.d
			if a.Kind == impl.AcCrash {
				want = synced(one.d.Safe...)
			}
			if refused && !sameDisk(e, want) {
				t.Error(at, "power", power, brief(e))
			}
		}
	}
}

// subsets are all lists of places below count that rise.
func subsets(count int) [][]int64 {
	l := [][]int64{}
	for bits := range 1 << count {
		keep := []int64{}
		for place := range count {
			if bits>>place&1 == 1 {
				keep = append(keep, int64(place))
			}
		}
		l = append(l, keep)
	}
	return l
}

// crashes are acts of all that may be kept of the ops of a disk, the last one
// torn at each of its bytes.
func crashes(d impl.Disk) []impl.Act {
	l := []impl.Act{}
	for _, keep := range subsets(len(d.Ops)) {
		most := 0
		if len(keep) > 0 {
			most = len(d.Ops[keep[len(keep)-1]].Data)
		}
		for torn := range int64(most + 2) {
			l = append(l, impl.Act{Kind: impl.AcCrash, Keep: keep, Torn: torn, Power: -1})
		}
	}
	return l
}

// journal is what a test knows of a disk: the commands that were added, how
// many of them are sure to be left, and whether a log is.
type journal struct {
	cmds    []impl.Cmd
	sure    int
	log     bool
	sureLog bool
}

// does takes note of the steps of an act that no check refuses.
func (j *journal) does(a impl.Act) {
	makes := func(step int64) bool { return a.Power < 0 || a.Power >= step }
	switch a.Kind {
	case impl.AcNew:
		j.log = makes(1)
		j.sureLog = makes(2)
	case impl.AcAdd:
		if makes(1) {
			j.cmds = append(slices.Clone(j.cmds), a.C)
		}
		if a.Sync && makes(2) {
			j.sure, j.sureLog = len(j.cmds), true
		}
	}
}

// holds tells whether a disk has what it should.
func (j *journal) holds(d impl.Disk) bool {
	l, code := impl.StoreView(d)
	if !j.log {
		return code == impl.StNone && len(l) == 0
	}
	db, answers, recovered := impl.Recovered(d)
	wantDb, wantAnswers := impl.Play(j.cmds)
	return code == impl.StOk && sameCmds(l, j.cmds) && recovered == impl.StOk && sameDb(db, wantDb) && sameAnswers(answers, wantAnswers)
}

// loses tells whether a disk has what it should behind a loss of power, and
// takes note of what that is.
func (j *journal) loses(d impl.Disk) bool {
	l, code := impl.StoreView(d)
	switch {
	case code == impl.StNone:
		if j.sureLog {
			return false
		}
		*j = journal{}
	case code != impl.StOk || !j.log || len(l) < j.sure || len(l) > len(j.cmds):
		return false
	default:
		j.cmds, j.sure, j.log, j.sureLog = j.cmds[:len(l)], len(l), true, true
	}
	return j.holds(d)
}

// journals are disks of several pasts, with what is known of them.
func journals(t *testing.T) ([]impl.Disk, []journal) {
	disks, known := []impl.Disk{{}}, []journal{{}}
	texts := fewTexts()
	for _, past := range [][]bool{{}, {true}, {false}, {true, false}, {true, true, false, false}, {false, false, false}, {false, true, false}} {
		d, j := impl.Disk{}, journal{}
		l := []impl.Act{{Kind: impl.AcNew, Power: -1}}
		for at, c := range cmdsOf(t, texts[:len(past)]...) {
			l = append(l, impl.Act{Kind: impl.AcAdd, C: c, Sync: past[at], Power: -1})
		}
		for _, a := range l {
			e, code := impl.StoreDo(d, a)
			if code != impl.StOk {
				t.Fatal("an act is refused", a.Kind, code)
			}
			d = e
			j.does(a)
		}
		disks, known = append(disks, d), append(known, j)
	}
	return disks, known
}

// holdsCrashes loses power in all ways, and again at each step of what comes
// then.
func holdsCrashes(t *testing.T, d impl.Disk, known journal) {
	t.Helper()
	for _, a := range crashes(d) {
		j := known
		e, code := holdsAct(t, d, a)
		if !j.loses(e) || code != impl.StOk && j.log {
			t.Fatal("power is lost", a.Keep, a.Torn, code, brief(d), brief(e))
		}
		for power := int64(0); power < 6 && j.log; power++ {
			a.Power = power
			half, code := holdsAct(t, d, a)
			if !j.holds(half) {
				t.Fatal("power is lost, and again at", power, code, brief(half))
			}
			for _, b := range crashes(half) {
				later := j
				if last, code := impl.StoreDo(half, b); code != impl.StOk || !later.loses(last) || len(later.cmds) != len(j.cmds) {
					t.Fatal("power is lost, again at", power, b.Keep, b.Torn, code, brief(half), brief(last))
				}
			}
			if code == impl.StOk {
				break
			}
		}
	}
}

func TestPromise12LossOfPowerBetweenAnyTwoSteps(t *testing.T) {
	disks, known := journals(t)
	next := cmdsOf(t, "put 7 3 1,2")[0]
	for at, d := range disks {
		holdsCrashes(t, d, known[at])
		acts := []impl.Act{{Kind: impl.AcNew}}
		if known[at].log {
			acts = []impl.Act{{Kind: impl.AcAdd, C: next}, {Kind: impl.AcAdd, C: next, Sync: true}, {Kind: impl.AcOpen}}
		}
		for _, a := range acts {
			for power := int64(0); power < 4; power++ {
				a.Power = power
				j := known[at]
				e, _ := holdsAct(t, d, a)
				j.does(a)
				if !j.holds(e) {
					t.Fatal("an act of kind", a.Kind, power, brief(e))
				}
				holdsCrashes(t, e, j)
			}
		}
	}
}

// act is one that a journal takes, with power for all of it or not.
func (d *dice) act(disk impl.Disk, p plan, log bool) impl.Act {
	a := impl.Act{Power: d.upTo(8) - 1}
	if d.upTo(2) == 0 {
		a.Power = -1
	}
	switch at := d.upTo(20); {
	case !log:
		a.Kind = impl.AcNew
	case at < 13:
		a.Kind, a.C, a.Sync = impl.AcAdd, d.cmd(p), d.upTo(4) == 0
	case at < 16:
		a.Kind = impl.AcOpen
	default:
		a.Kind, a.Keep, a.Torn = impl.AcCrash, d.keep(len(disk.Ops)), d.upTo(30)
	}
	return a
}

func TestPromise12JournalsOfManyActs(t *testing.T) {
	d := &dice{122}
	codes := map[int64]int{}
	for round := range 400 {
		disk, j := impl.Disk{}, journal{}
		p := plans()[round%len(plans())]
		for range 50 {
			a := d.act(disk, p, j.log)
			if a.Kind == impl.AcAdd && len(j.cmds) == 0 {
				a.C = impl.Cmd{Kind: impl.CmDim, A: int64(p.dim)}
			}
			e, code := holdsAct(t, disk, a)
			codes[code]++
			if a.Kind == impl.AcCrash {
				if !j.loses(e) {
					t.Fatal("power is lost", brief(disk), brief(e))
				}
			} else if code == impl.StOk || code == impl.StPower {
				j.does(a)
			}
			if !j.holds(e) {
				t.Fatal("an act of kind", a.Kind, a.Power, code, brief(disk), brief(e))
			}
			disk = e
		}
	}
	for _, code := range []int64{impl.StOk, impl.StForm, impl.StPower, impl.StTorn} {
		if codes[code] < 20 {
			t.Error("a code is met too seldom", code, codes)
		}
	}
}

func TestRecoveredIsPlay(t *testing.T) {
	tryLists(123, 1, 60, func(d *dice, p plan, list []impl.Cmd) {
		disk, taken := logDisk(""), []impl.Cmd{}
		for _, c := range list {
			e, code := impl.StoreDo(disk, impl.Act{Kind: impl.AcAdd, C: c, Power: -1})
			if (code == impl.StOk) != impl.CmdOk(c) {
				t.Fatal("a command is taken", code, c)
			}
			if code == impl.StOk {
				taken = append(taken, c)
			}
			disk = e
		}
		wantDb, wantAnswers := playAsTold(taken)
		if db, answers, code := impl.Recovered(disk); code != impl.StOk || !sameDb(db, wantDb) || !sameAnswers(answers, wantAnswers) {
			t.Fatal("what is recovered", code, taken)
		}
	})
	for _, one := range tornLogs() {
		l, _, _ := countedAsTold(one.log)
		wantDb, wantAnswers := impl.Play(l)
		if db, answers, code := impl.Recovered(logDisk(one.log)); code != impl.StOk || !sameDb(db, wantDb) || !sameAnswers(answers, wantAnswers) {
			t.Error("a torn log", code, len(answers), "not", one.count)
		}
	}
	for _, d := range wrongDisks() {
		if db, answers, code := impl.Recovered(d); code != impl.StDisk || !sameDb(db, impl.Db{}) || len(answers) != 0 {
			t.Error("a disk is not right", code)
		}
	}
	if db, answers, code := impl.Recovered(synced(impl.File{Name: "log.new", Data: logOf("dim 1")})); code != impl.StNone || !sameDb(db, impl.Db{}) || len(answers) != 0 {
		t.Error("there is no log", code)
	}
}

// A log of MaxCmds is recovered whole, and takes no more.
func TestJournalsOfMaxCmds(t *testing.T) {
	d := logDisk("")
	list := cmdsOf(t, manyTexts(impl.MaxCmds+1)...)
	for at, c := range list {
		e, code := impl.StoreDo(d, impl.Act{Kind: impl.AcAdd, C: c, Sync: at%2 == 0, Power: -1})
		if at < impl.MaxCmds && code != impl.StOk || at == impl.MaxCmds && (code != impl.StFull || !sameDisk(e, d)) {
			t.Fatal("command", at, code)
		}
		d = e
	}
	if l, code := impl.StoreView(d); code != impl.StOk || !sameCmds(l, list[:impl.MaxCmds]) {
		t.Error("they are there", code, len(l))
	}
	if _, answers, code := impl.Recovered(d); code != impl.StOk || len(answers) != impl.MaxCmds {
		t.Error("they are recovered", code, len(answers))
	}
	if e, code := impl.StoreDo(d, impl.Act{Kind: impl.AcOpen}); code != impl.StOk || !sameDisk(e, d) {
		t.Error("that is a good log", code)
	}
}

func TestStorePlayIsActByAct(t *testing.T) {
	d := &dice{124}
	for round := range 200 {
		start := impl.Disk{}
		if round%2 == 0 {
			start = d.disk()
		}
		l, want, wantCodes := []impl.Act{}, start, []int64{}
		for range d.upTo(12) {
			a := d.act(want, plans()[0], d.upTo(6) > 0)
			if d.upTo(10) == 0 {
				a.Kind = d.upTo(7) - 1
			}
			e, code := storeAsTold(want, a)
			want, wantCodes, l = e, append(wantCodes, code), append(l, a)
		}
		if e, codes := impl.StorePlay(start, l); !sameDisk(e, want) || !slices.Equal(codes, wantCodes) {
			t.Fatal("codes", codes, "not", wantCodes, brief(e), "not", brief(want))
		}
	}
	for _, wrong := range wrongDisks() {
		if e, codes := impl.StorePlay(wrong, []impl.Act{{Kind: impl.AcNew, Power: -1}}); !isZeroDisk(e) || len(codes) != 0 {
			t.Error("a disk is not right", codes)
		}
	}
	good := logDisk(logOf("dim 1"))
	if e, codes := impl.StorePlay(good, nil); !sameDisk(e, good) || len(codes) != 0 {
		t.Error("no acts", codes, brief(e))
	}
	if e, codes := impl.StorePlay(good, []impl.Act{{Kind: 9}, {Kind: impl.AcAdd}, {Kind: impl.AcNew}}); !sameDisk(e, good) || !slices.Equal(codes, []int64{impl.StForm, impl.StForm, impl.StForm}) {
		t.Error("acts that are refused", codes, brief(e))
	}
}

func TestPromise15JournalsLeaveArgumentsAlone(t *testing.T) {
	d := &dice{125}
	disks, _ := journals(t)
	disks = append(disks, wrongDisks()[3], logDisk(logOf(fewTexts()...)+"x"))
	v := []int64{3, 4}
	for _, k := range disks {
		for kind := int64(0); kind < 6; kind++ {
			l, keep := roomyDisk(k), d.keep(len(k.Ops))
			a := impl.Act{Kind: kind, C: impl.Cmd{Kind: impl.CmPut, A: 5, Vec: roomy(v)}, Power: d.upTo(4) - 1, Keep: roomy(keep), Torn: 3}
			acts := []impl.Act{a, a, {Kind: 77}}
			answers := func() (impl.Disk, impl.Disk, []int64, []impl.Cmd, impl.Db, []impl.Answer) {
				e, code := impl.StoreDo(l, a)
				f, codes := impl.StorePlay(l, acts[:2])
				cmds, seen := impl.StoreView(l)
				db, told, recovered := impl.Recovered(l)
				return e, f, append(codes, code, seen, recovered), cmds, db, told
			}
			e, f, codes, cmds, db, told := answers()
			keptE, keptF := cloneDisk(e), cloneDisk(f)
			if !spoilDisk(e) || !sameDisk(f, keptF) || !spoilDisk(f) || !spoilPlayed(db, told) {
				t.Fatal("lists of answers share memory", kind, brief(k))
			}
			for _, c := range cmds {
				spoil(c.Vec)
			}
			if !untouchedDisk(l, k) || !untouched(a.C.Vec, v) || !untouched(a.Keep, keep) || acts[2].Kind != 77 {
				t.Fatal("an argument is changed", kind, brief(k))
			}
			e, f, again, cmds, db, told := answers()
			want, _, _ := countedAsTold(toldFilesOf(k.Live)["log"])
			wantDb, wantAnswers := impl.Play(want)
			if !sameDisk(e, keptE) || !sameDisk(f, keptF) || !slices.Equal(again, codes) {
				t.Fatal("another answer the second time", kind, brief(k))
			}
			if seen := again[len(again)-1]; seen == impl.StOk && (!sameCmds(cmds, want) || !sameDb(db, wantDb) || !sameAnswers(told, wantAnswers)) {
				t.Fatal("another view the second time", kind, brief(k))
			}
		}
	}
}

// Without acts, too, the disk that is answered is a new one.
func TestPromise15StorePlayOfNoActs(t *testing.T) {
	d := done(t, logDisk(logOf("dim 1")), appendOp("a", "1"))
	l := roomyDisk(d)
	if e, _ := impl.StorePlay(l, nil); !sameDisk(e, d) || !spoilDisk(e) || !untouchedDisk(l, d) {
		t.Error("an answer shares memory", brief(l))
	}
}

// Frames of one text that is used again are the same, and take nothing of it.
func TestPromise15FramesAreTheSame(t *testing.T) {
	s := impl.FrameOf("a") + impl.FrameOf("") + impl.FrameOf("b")
	first, _ := impl.TakeFrames(s)
	for at := range first[:cap(first)] {
		first[:cap(first)][at] = "spoilt"
	}
	if l, end := impl.TakeFrames(s); !slices.Equal(l, []string{"a", "", "b"}) || end != 26 {
		t.Error(l, end)
	}
}
