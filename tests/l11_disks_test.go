package tests

import (
	"maps"
	"slices"
	"strconv"
	"strings"
	"testing"

	"loop.example/g00707/impl"
)

// toldFiles are files by their names, as the document speaks of them.
type toldFiles map[string]string

func toldFilesOf(l []impl.File) toldFiles {
	m := toldFiles{}
	for _, f := range l {
		m[f.Name] = f.Data
	}
	return m
}

func (m toldFiles) list() []impl.File {
	l := []impl.File{}
	for _, name := range slices.Sorted(maps.Keys(m)) {
		l = append(l, impl.File{Name: name, Data: m[name]})
	}
	return l
}

// do tells whether the op found its file.
func (m toldFiles) do(op impl.DOp) bool {
	data, there := m[op.Name]
	switch {
	case op.Kind == impl.DkAppend:
		m[op.Name] = data + op.Data
		return true
	case !there:
		return false
	}
	delete(m, op.Name)
	if op.Kind == impl.DkRename {
		m[op.To] = data
	}
	return true
}

func filesAsTold(l []impl.File) bool {
	bytes := 0
	for at, f := range l {
		if len(f.Name) < 1 || len(f.Name) > 100 || at > 0 && l[at-1].Name >= f.Name {
			return false
		}
		bytes += len(f.Data)
	}
	return len(l) <= 60 && bytes <= 200000
}

func opAsTold(op impl.DOp) bool {
	kind := op.Kind == impl.DkAppend || op.Kind == impl.DkRename || op.Kind == impl.DkRemove
	name := len(op.Name) >= 1 && len(op.Name) <= 100
	to := op.To == ""
	if op.Kind == impl.DkRename {
		to = len(op.To) >= 1 && len(op.To) <= 100
	}
	return kind && name && to && (op.Data == "" || op.Kind == impl.DkAppend)
}

func diskAsTold(d impl.Disk) bool {
	if !filesAsTold(d.Live) || !filesAsTold(d.Safe) || len(d.Ops) > 200 {
		return false
	}
	m := toldFilesOf(d.Safe)
	for _, op := range d.Ops {
		if !opAsTold(op) || !m.do(op) || !filesAsTold(m.list()) {
			return false
		}
	}
	return slices.Equal(m.list(), d.Live)
}

func doAsTold(d impl.Disk, op impl.DOp) (impl.Disk, int64) {
	if !diskAsTold(d) {
		return impl.Disk{}, impl.DkDisk
	}
	if !opAsTold(op) {
		return d, impl.DkForm
	}
	m := toldFilesOf(d.Live)
	if !m.do(op) {
		return d, impl.DkNone
	}
	if len(d.Ops) == 200 || !filesAsTold(m.list()) {
		return d, impl.DkFull
	}
	return impl.Disk{Live: m.list(), Safe: d.Safe, Ops: append(slices.Clone(d.Ops), op)}, impl.DkOk
}

func syncAsTold(d impl.Disk) impl.Disk {
	if !diskAsTold(d) {
		return impl.Disk{}
	}
	return impl.Disk{Live: d.Live, Safe: d.Live}
}

func crashAsTold(d impl.Disk, keep []int64, torn int64) (impl.Disk, bool) {
	if !diskAsTold(d) || torn < 0 {
		return impl.Disk{}, false
	}
	m := toldFilesOf(d.Safe)
	for at, place := range keep {
		if place < 0 || place >= int64(len(d.Ops)) || at > 0 && keep[at-1] >= place {
			return impl.Disk{}, false
		}
		op := d.Ops[place]
		if at == len(keep)-1 && int64(len(op.Data)) > torn {
			op.Data = op.Data[:torn]
		}
		m.do(op)
	}
	if !filesAsTold(m.list()) {
		return impl.Disk{}, false
	}
	return impl.Disk{Live: m.list(), Safe: m.list()}, true
}

func replaceAsTold(d impl.Disk, name string, data string) (impl.Disk, int64) {
	other := name + ".new"
	ops := []impl.DOp{{Kind: impl.DkAppend, Name: other, Data: data}, {Kind: impl.DkRename, Name: other, To: name}}
	if _, there := toldFilesOf(d.Live)[other]; there {
		ops = append([]impl.DOp{{Kind: impl.DkRemove, Name: other}}, ops...)
	}
	e, code := d, int64(impl.DkOk)
	for _, op := range ops {
		e, code = doAsTold(e, op)
		if code == impl.DkDisk {
			return impl.Disk{}, code
		}
		if code != impl.DkOk {
			return d, code
		}
	}
	return e, code
}

func sameDisk(a impl.Disk, b impl.Disk) bool {
	return slices.Equal(a.Live, b.Live) && slices.Equal(a.Safe, b.Safe) && slices.Equal(a.Ops, b.Ops)
}

func isZeroDisk(d impl.Disk) bool {
	return len(d.Live) == 0 && len(d.Safe) == 0 && len(d.Ops) == 0
}

// brief is what of a disk can be read in a test's report.
func brief(d impl.Disk) string {
	out := []string{}
	add := func(s string) { out = append(out, strconv.Quote(s[:min(len(s), 20)])) }
	for _, l := range [][]impl.File{d.Live, d.Safe} {
		for _, f := range l {
			add(f.Name)
			add(f.Data)
		}
		out = append(out, "|")
	}
	for _, op := range d.Ops {
		out = append(out, strconv.FormatInt(op.Kind, 10))
		add(op.Name)
		add(op.To)
		add(op.Data)
	}
	return strings.Join(out, " ")
}

func appendOp(name string, data string) impl.DOp {
	return impl.DOp{Kind: impl.DkAppend, Name: name, Data: data}
}

func renameOp(name string, to string) impl.DOp {
	return impl.DOp{Kind: impl.DkRename, Name: name, To: to}
}

func removeOp(name string) impl.DOp {
	return impl.DOp{Kind: impl.DkRemove, Name: name}
}

// done is a disk with all ops done, none of which is refused.
func done(t *testing.T, d impl.Disk, ops ...impl.DOp) impl.Disk {
	t.Helper()
	for _, op := range ops {
		e, code := impl.Do(d, op)
		if code != impl.DkOk {
			t.Fatal("an op is refused", code, op.Kind, op.Name, op.To)
		}
		d = e
	}
	return d
}

// synced is a disk with these files, and no ops.
func synced(files ...impl.File) impl.Disk {
	return impl.Disk{Live: slices.Clone(files), Safe: slices.Clone(files)}
}

// numberedFiles are files whose names rise.
func numberedFiles(count int, data string) []impl.File {
	l := []impl.File{}
	for n := range count {
		l = append(l, impl.File{Name: "f" + string(rune('0'+n/10)) + string(rune('0'+n%10)), Data: data})
	}
	return l
}

var fileNames = []string{"a", "b", "c", "a.new", "log", "\x00", "\xff"}

// op is of each kind, most often one that is of its form.
func (d *dice) op() impl.DOp {
	op := impl.DOp{Kind: 1 + d.upTo(3), Name: fileNames[d.upTo(int64(len(fileNames)))]}
	if op.Kind == impl.DkAppend {
		op.Data = strings.Repeat(string(rune('a'+d.upTo(26))), int(d.upTo(6)))
	}
	if op.Kind == impl.DkRename {
		op.To = fileNames[d.upTo(int64(len(fileNames)))]
	}
	switch d.upTo(30) {
	case 0:
		op.Kind = d.upTo(6) - 1
	case 1:
		op.Name = strings.Repeat("n", int(99+d.upTo(3))*int(d.upTo(2)))
	case 2:
		op.To = strings.Repeat("t", int(99+d.upTo(3))*int(d.upTo(2)))
	case 3:
		op.Data = "x"
	case 4:
		op.Data = strings.Repeat("y", int(d.upTo(impl.MaxBytes+2)))
		op.Kind = impl.DkAppend
	}
	return op
}

// keep are places of ops that rise.
func (d *dice) keep(count int) []int64 {
	l := []int64{}
	for place := range count {
		if d.upTo(3) > 0 {
			l = append(l, int64(place))
		}
	}
	return l
}

// disk is a right one, with files, and ops behind the last sync.
func (d *dice) disk() impl.Disk {
	out := impl.Disk{}
	for range d.upTo(25) {
		out, _ = impl.Do(out, d.op())
		if d.upTo(10) == 0 {
			out = impl.Sync(out)
		}
	}
	return out
}

// wrongDisks are not right, each by one thing alone.
func wrongDisks() []impl.Disk {
	long, tooLong := strings.Repeat("n", 100), strings.Repeat("n", 101)
	much := strings.Repeat("x", impl.MaxBytes)
	a := impl.File{Name: "a", Data: "1"}
	b := impl.File{Name: "b", Data: "2"}
	lists := [][]impl.File{
		{{Name: "", Data: "1"}},
		{{Name: tooLong, Data: "1"}},
		{a, a},
		{a, {Name: "a", Data: "2"}},
		{b, a},
		{{Name: "\xff"}, {Name: "a"}},
		{{Name: "ab"}, {Name: "a"}},
		{{Name: "a", Data: much + "x"}},
		{{Name: "a", Data: much}, b},
		append(numberedFiles(impl.MaxFiles, ""), impl.File{Name: "z"}),
	}
	l := []impl.Disk{
		{Live: []impl.File{a}},
		{Safe: []impl.File{a}},
		{Live: []impl.File{a}, Safe: []impl.File{b}},
		{Live: []impl.File{a, b}, Safe: []impl.File{a}},
		{Live: []impl.File{a}, Ops: []impl.DOp{appendOp("a", "2")}},
		{Live: []impl.File{a}, Ops: []impl.DOp{appendOp("a", "")}},
		{Live: []impl.File{a}, Ops: []impl.DOp{appendOp("b", "1")}},
		{Live: []impl.File{a}, Safe: []impl.File{a}, Ops: []impl.DOp{appendOp("a", "1")}},
		{Ops: []impl.DOp{removeOp("a")}},
		{Ops: []impl.DOp{renameOp("a", "b")}},
		{Ops: []impl.DOp{appendOp("a", "1"), removeOp("a"), removeOp("a")}},
		{Live: []impl.File{b}, Safe: []impl.File{b}, Ops: []impl.DOp{renameOp("a", "b")}},
		{Live: []impl.File{a}, Safe: []impl.File{a}, Ops: []impl.DOp{{}}},
		{Live: []impl.File{a}, Safe: []impl.File{a}, Ops: []impl.DOp{{Kind: 4, Name: "a"}}},
		{Live: []impl.File{a}, Safe: []impl.File{a}, Ops: []impl.DOp{appendOp("", "")}},
		{Live: []impl.File{a}, Safe: []impl.File{a}, Ops: []impl.DOp{{Kind: impl.DkAppend, Name: "a", To: "a"}}},
		{Live: []impl.File{a}, Safe: []impl.File{a}, Ops: []impl.DOp{{Kind: impl.DkRename, Name: "a", To: "a", Data: "1"}}},
		{Safe: []impl.File{a}, Ops: []impl.DOp{{Kind: impl.DkRemove, Name: "a", To: "a"}}},
		{Safe: []impl.File{a}, Ops: []impl.DOp{{Kind: impl.DkRemove, Name: "a", Data: "1"}}},
		{Live: []impl.File{{Name: tooLong, Data: "1"}}, Safe: []impl.File{a}, Ops: []impl.DOp{renameOp("a", tooLong)}},
		{Live: []impl.File{{Name: "", Data: "1"}}, Safe: []impl.File{a}, Ops: []impl.DOp{renameOp("a", "")}},
		// Too many bytes, or files, between two ops, though not at the end.
		{Safe: []impl.File{{Name: "a", Data: much}}, Ops: []impl.DOp{appendOp("a", "x"), removeOp("a")}},
		{Live: numberedFiles(impl.MaxFiles, ""), Safe: numberedFiles(impl.MaxFiles, ""), Ops: []impl.DOp{appendOp("z", ""), removeOp("z")}},
		{Live: []impl.File{{Name: long}}, Ops: slices.Repeat([]impl.DOp{appendOp(long, "")}, impl.MaxOps+1)},
	}
	for _, files := range lists {
		l = append(l, synced(files...))
	}
	return l
}

func TestDiskOkAtItsLimits(t *testing.T) {
	long := strings.Repeat("n", 100)
	much := strings.Repeat("x", impl.MaxBytes)
	right := []impl.Disk{
		{},
		{Live: []impl.File{}, Safe: []impl.File{}, Ops: []impl.DOp{}},
		synced(impl.File{Name: "a"}),
		synced(impl.File{Name: long, Data: "1"}),
		synced(impl.File{Name: "a", Data: much}),
		synced(impl.File{Name: "a", Data: much[1:]}, impl.File{Name: "b", Data: "1"}),
		synced(impl.File{Name: "a"}, impl.File{Name: "a\x00"}, impl.File{Name: "ab"}, impl.File{Name: "b"}, impl.File{Name: "\xff"}),
		synced(numberedFiles(impl.MaxFiles, "x")...),
		{Live: []impl.File{{Name: long}}, Ops: slices.Repeat([]impl.DOp{appendOp(long, "")}, impl.MaxOps)},
		{Ops: []impl.DOp{appendOp("a", "1"), removeOp("a")}},
		{Safe: []impl.File{{Name: "a", Data: much}}, Ops: []impl.DOp{removeOp("a")}},
		{Live: []impl.File{{Name: "a", Data: much}}, Ops: []impl.DOp{appendOp("a", much)}},
		{Live: []impl.File{{Name: "a", Data: "1"}}, Safe: []impl.File{{Name: "a", Data: "1"}}, Ops: []impl.DOp{renameOp("a", "a")}},
	}
	for at, d := range right {
		if !diskAsTold(d) || !impl.DiskOk(d) {
			t.Error("a disk is right", at, brief(d))
		}
	}
	for at, d := range wrongDisks() {
		if diskAsTold(d) || impl.DiskOk(d) {
			t.Error("a disk is not right", at, brief(d))
		}
	}
}

// bent is a right disk with one thing of it turned, right or not.
func (d *dice) bent() impl.Disk {
	out := d.disk()
	out.Live, out.Safe, out.Ops = slices.Clone(out.Live), slices.Clone(out.Safe), slices.Clone(out.Ops)
	files := out.Live
	if d.upTo(2) == 0 {
		files = out.Safe
	}
	switch d.upTo(6) {
	case 0:
		if len(files) > 0 {
			files[d.upTo(int64(len(files)))].Data += "?"
		}
	case 1:
		if len(files) > 1 {
			files[0], files[1] = files[1], files[0]
		}
	case 2:
		if len(out.Ops) > 0 {
			out.Ops = out.Ops[1:]
		}
	case 3:
		out.Ops = append(out.Ops, d.op())
	case 4:
		if len(out.Ops) > 0 {
			out.Ops[d.upTo(int64(len(out.Ops)))] = d.op()
		}
	case 5:
		if len(out.Ops) > 1 {
			out.Ops[0], out.Ops[1] = out.Ops[1], out.Ops[0]
		}
	}
	return out
}

func TestDiskOkAsTold(t *testing.T) {
	d := &dice{111}
	count := map[bool]int{}
	for range 4000 {
		k := d.bent()
		want := diskAsTold(k)
		if impl.DiskOk(k) != want {
			t.Fatal("DiskOk is", !want, brief(k))
		}
		count[want]++
	}
	if count[true] < 500 || count[false] < 500 {
		t.Error("too few of one sort", count)
	}
}

func TestDoGoesAsTold(t *testing.T) {
	d := &dice{112}
	codes := map[int64]int{}
	for range 300 {
		k, told := impl.Disk{}, impl.Disk{}
		for range 60 {
			op := d.op()
			want, wantCode := doAsTold(told, op)
			got, code := impl.Do(k, op)
			if code != wantCode || !sameDisk(got, want) {
				t.Fatal("Do", op.Kind, op.Name, op.To, "told", code, "not", wantCode, brief(got))
			}
			codes[code*10+op.Kind]++
			k, told = got, want
			if d.upTo(12) == 0 {
				k, told = impl.Sync(k), syncAsTold(told)
				if !sameDisk(k, told) {
					t.Fatal("Sync", brief(k))
				}
			}
			name := fileNames[d.upTo(int64(len(fileNames)))]
			data, there := toldFilesOf(told.Live)[name]
			if s, ok := impl.ReadFile(k, name); ok != there || s != data {
				t.Fatal("ReadFile", name, brief(k))
			}
		}
	}
	for _, want := range []int64{1, 2, 3, 21, 22, 23, 32, 33, 41} {
		if codes[want] == 0 {
			t.Error("a code is not met", want, codes)
		}
	}
}

func TestDoTellsEachCode(t *testing.T) {
	long, tooLong := strings.Repeat("n", 100), strings.Repeat("n", 101)
	much := strings.Repeat("x", impl.MaxBytes)
	some := synced(impl.File{Name: "a", Data: "1"}, impl.File{Name: "b", Data: "2"})
	full := synced(impl.File{Name: "a", Data: much[2:]}, impl.File{Name: "b", Data: "1"})
	many := synced(numberedFiles(impl.MaxFiles, "")...)
	for at, one := range []struct {
		d    impl.Disk
		op   impl.DOp
		code int64
	}{
		{some, appendOp("a", "3"), impl.DkOk},
		{some, appendOp("a", ""), impl.DkOk},
		{some, appendOp("c", ""), impl.DkOk},
		{some, appendOp(long, "3"), impl.DkOk},
		{some, renameOp("a", "c"), impl.DkOk},
		{some, renameOp("a", "b"), impl.DkOk},
		{some, renameOp("a", "a"), impl.DkOk},
		{some, renameOp("a", long), impl.DkOk},
		{some, removeOp("a"), impl.DkOk},
		{some, impl.DOp{}, impl.DkForm},
		{some, impl.DOp{Kind: 4, Name: "a"}, impl.DkForm},
		{some, impl.DOp{Kind: -1, Name: "a"}, impl.DkForm},
		{some, impl.DOp{Kind: 1<<32 + 1, Name: "a"}, impl.DkForm},
		{some, appendOp("", "3"), impl.DkForm},
		{some, appendOp(tooLong, "3"), impl.DkForm},
		{some, renameOp("", "c"), impl.DkForm},
		{some, renameOp(tooLong, "c"), impl.DkForm},
		{some, renameOp("a", ""), impl.DkForm},
		{some, renameOp("a", tooLong), impl.DkForm},
		{some, removeOp(""), impl.DkForm},
		{some, removeOp(tooLong), impl.DkForm},
		{some, impl.DOp{Kind: impl.DkAppend, Name: "a", To: "b"}, impl.DkForm},
		{some, impl.DOp{Kind: impl.DkRemove, Name: "a", To: "b"}, impl.DkForm},
		{some, impl.DOp{Kind: impl.DkRename, Name: "a", To: "b", Data: "x"}, impl.DkForm},
		{some, impl.DOp{Kind: impl.DkRemove, Name: "a", Data: "x"}, impl.DkForm},
		{some, renameOp("c", "d"), impl.DkNone},
		{some, renameOp("c", "a"), impl.DkNone},
		{some, renameOp("c", "c"), impl.DkNone},
		{some, removeOp("c"), impl.DkNone},
		{impl.Disk{}, removeOp("a"), impl.DkNone},
		{full, appendOp("b", "x"), impl.DkOk},
		{full, appendOp("c", "x"), impl.DkOk},
		{full, appendOp("b", "xx"), impl.DkFull},
		{full, appendOp("c", "xx"), impl.DkFull},
		{impl.Disk{}, appendOp("a", much), impl.DkOk},
		{impl.Disk{}, appendOp("a", much+"x"), impl.DkFull},
		{many, appendOp("f00", "x"), impl.DkOk},
		{many, renameOp("f00", "z"), impl.DkOk},
		{many, appendOp("z", ""), impl.DkFull},
		{synced(numberedFiles(impl.MaxFiles-1, "")...), appendOp("z", ""), impl.DkOk},
		// Where more than one check fails, the first one is told.
		{wrongDisks()[0], impl.DOp{}, impl.DkDisk},
		{full, impl.DOp{Kind: impl.DkAppend, Name: "c", To: "d", Data: "xx"}, impl.DkForm},
		{some, impl.DOp{Kind: impl.DkRemove, Name: "c", To: "d"}, impl.DkForm},
	} {
		want, wantCode := doAsTold(one.d, one.op)
		if wantCode != one.code {
			t.Error("told otherwise", at, wantCode)
		}
		if got, code := impl.Do(one.d, one.op); code != one.code || !sameDisk(got, want) {
			t.Error(at, "told", code, "not", one.code, brief(got))
		}
	}
}

func TestDoWithMaxOps(t *testing.T) {
	ops := slices.Repeat([]impl.DOp{appendOp("a", "x")}, impl.MaxOps)
	d := done(t, impl.Disk{}, ops...)
	if len(d.Ops) != impl.MaxOps || !impl.DiskOk(d) {
		t.Fatal("so many ops are right", len(d.Ops))
	}
	for _, op := range []impl.DOp{appendOp("a", ""), renameOp("a", "b"), removeOp("a")} {
		if e, code := impl.Do(d, op); code != impl.DkFull || !sameDisk(e, d) {
			t.Error("one op more", op.Kind, code)
		}
	}
	if _, code := impl.Do(d, removeOp("b")); code != impl.DkNone {
		t.Error("that there is no such file is told first", code)
	}
	if _, code := impl.Do(d, removeOp("")); code != impl.DkForm {
		t.Error("the form is told first", code)
	}
	e := done(t, impl.Sync(d), appendOp("a", "y"))
	if s, ok := impl.ReadFile(e, "a"); !ok || len(s) != impl.MaxOps+1 || len(e.Ops) != 1 {
		t.Error("a sync makes room for ops", len(s), len(e.Ops))
	}
}

func TestDisksOfRenames(t *testing.T) {
	d := synced(impl.File{Name: "a", Data: "1"}, impl.File{Name: "b", Data: "2"})
	for _, one := range []struct {
		op   impl.DOp
		want []impl.File
	}{
		{renameOp("a", "a"), []impl.File{{Name: "a", Data: "1"}, {Name: "b", Data: "2"}}},
		{renameOp("a", "b"), []impl.File{{Name: "b", Data: "1"}}},
		{renameOp("b", "a"), []impl.File{{Name: "a", Data: "2"}}},
		{renameOp("a", "c"), []impl.File{{Name: "b", Data: "2"}, {Name: "c", Data: "1"}}},
		{renameOp("b", "0"), []impl.File{{Name: "0", Data: "2"}, {Name: "a", Data: "1"}}},
	} {
		e := done(t, d, one.op)
		if !slices.Equal(e.Live, one.want) || !slices.Equal(e.Safe, d.Safe) || !slices.Equal(e.Ops, []impl.DOp{one.op}) {
			t.Error(one.op, brief(e))
		}
	}
}

func TestWrongDisks(t *testing.T) {
	for at, d := range wrongDisks() {
		if e, code := impl.Do(d, appendOp("a", "")); code != impl.DkDisk || !isZeroDisk(e) {
			t.Error("Do", at, code, brief(e))
		}
		if e := impl.Sync(d); !isZeroDisk(e) {
			t.Error("Sync", at, brief(e))
		}
		if e, ok := impl.Crash(d, nil, 0); ok || !isZeroDisk(e) {
			t.Error("Crash", at, brief(e))
		}
		if s, ok := impl.ReadFile(d, "a"); ok || s != "" {
			t.Error("ReadFile", at, s)
		}
		if e, code := impl.Replace(d, "a", ""); code != impl.DkDisk || !isZeroDisk(e) {
			t.Error("Replace", at, code, brief(e))
		}
	}
}

func TestReadFile(t *testing.T) {
	d := done(t, synced(impl.File{Name: "a", Data: "1"}, impl.File{Name: "b", Data: "2"}), appendOp("a", "3"), removeOp("b"), appendOp("c", ""))
	for name, want := range map[string]string{"a": "13", "c": ""} {
		if s, ok := impl.ReadFile(d, name); !ok || s != want {
			t.Error(name, s, ok)
		}
	}
	for _, name := range []string{"b", "", "d", "A", "a\x00", strings.Repeat("a", 101)} {
		if s, ok := impl.ReadFile(d, name); ok || s != "" {
			t.Error("there is no such file", name, s)
		}
	}
}

func allPlaces(d impl.Disk) []int64 {
	l := []int64{}
	for place := range d.Ops {
		l = append(l, int64(place))
	}
	return l
}

func TestPromise11AllKeptOrNone(t *testing.T) {
	d := &dice{113}
	met := map[int64]int{}
	for range 1500 {
		k := d.disk()
		for _, op := range k.Ops {
			met[op.Kind]++
		}
		most := int64(0)
		if len(k.Ops) > 0 {
			most = int64(len(k.Ops[len(k.Ops)-1].Data))
		}
		for _, torn := range []int64{most, most + 1, 1<<63 - 1} {
			all, ok := impl.Crash(k, allPlaces(k), torn)
			if !ok || !slices.Equal(all.Live, k.Live) || !slices.Equal(all.Safe, k.Live) || len(all.Ops) != 0 || !impl.DiskOk(all) {
				t.Fatal("all are kept", torn, brief(k), brief(all))
			}
		}
		for _, torn := range []int64{0, 1, most, 1<<63 - 1} {
			none, ok := impl.Crash(k, nil, torn)
			if !ok || !slices.Equal(none.Live, k.Safe) || !slices.Equal(none.Safe, k.Safe) || len(none.Ops) != 0 || !impl.DiskOk(none) {
				t.Fatal("none is kept", torn, brief(k), brief(none))
			}
		}
		after, ok := impl.Crash(impl.Sync(k), nil, 0)
		if !ok || !slices.Equal(after.Live, k.Live) {
			t.Fatal("what was synced is left", brief(k), brief(after))
		}
	}
	for kind := int64(1); kind < 4; kind++ {
		if met[kind] < 100 {
			t.Error("too few ops of a kind", met)
		}
	}
}

func TestCrashGoesAsTold(t *testing.T) {
	d := &dice{114}
	for range 3000 {
		k := d.disk()
		keep := d.keep(len(k.Ops))
		switch d.upTo(8) {
		case 0:
			keep = append(keep, d.upTo(int64(len(k.Ops))+3)-1)
		case 1:
			slices.Reverse(keep)
		}
		torn := d.upTo(8) - 1
		want, wantOk := crashAsTold(k, keep, torn)
		if got, ok := impl.Crash(k, keep, torn); ok != wantOk || !sameDisk(got, want) {
			t.Fatal("Crash", keep, torn, brief(k), "told", ok, brief(got))
		}
	}
}

// Where ops that others lean on are not kept, those find no file, or another
// one.
func TestCrashKeepsSome(t *testing.T) {
	start := synced(impl.File{Name: "a", Data: "1"}, impl.File{Name: "b", Data: "2"})
	d := done(t, start, appendOp("c", "xyz"), renameOp("c", "a"), removeOp("b"), appendOp("b", "uvw"), removeOp("a"), appendOp("a", "mn"))
	for at, one := range []struct {
		keep []int64
		torn int64
		want []impl.File
	}{
		{[]int64{0}, 0, []impl.File{{Name: "a", Data: "1"}, {Name: "b", Data: "2"}, {Name: "c", Data: ""}}},
		{[]int64{0}, 2, []impl.File{{Name: "a", Data: "1"}, {Name: "b", Data: "2"}, {Name: "c", Data: "xy"}}},
		{[]int64{0}, 3, []impl.File{{Name: "a", Data: "1"}, {Name: "b", Data: "2"}, {Name: "c", Data: "xyz"}}},
		{[]int64{0}, 4, []impl.File{{Name: "a", Data: "1"}, {Name: "b", Data: "2"}, {Name: "c", Data: "xyz"}}},
		{[]int64{1}, 0, start.Safe},
		{[]int64{0, 1}, 0, []impl.File{{Name: "a", Data: "xyz"}, {Name: "b", Data: "2"}}},
		{[]int64{2}, 0, []impl.File{{Name: "a", Data: "1"}}},
		{[]int64{3}, 1, []impl.File{{Name: "a", Data: "1"}, {Name: "b", Data: "2u"}}},
		{[]int64{2, 3}, 1, []impl.File{{Name: "a", Data: "1"}, {Name: "b", Data: "u"}}},
		{[]int64{0, 3, 5}, 1, []impl.File{{Name: "a", Data: "1m"}, {Name: "b", Data: "2uvw"}, {Name: "c", Data: "xyz"}}},
		{[]int64{4}, 0, []impl.File{{Name: "b", Data: "2"}}},
		{[]int64{1, 4, 5}, 9, []impl.File{{Name: "a", Data: "mn"}, {Name: "b", Data: "2"}}},
	} {
		e, ok := impl.Crash(d, one.keep, one.torn)
		if !ok || !slices.Equal(e.Live, one.want) || !slices.Equal(e.Safe, one.want) || len(e.Ops) != 0 {
			t.Error(at, ok, brief(e))
		}
	}
	twice := done(t, start, removeOp("a"), appendOp("a", ""), removeOp("a"))
	if e, ok := impl.Crash(twice, []int64{0, 2}, 0); !ok || !slices.Equal(e.Live, start.Safe[1:]) {
		t.Error("a remove that finds no file does nothing", ok, brief(e))
	}
}

func TestCrashWrong(t *testing.T) {
	const top, low = 1<<63 - 1, -1 << 63
	d := done(t, impl.Disk{}, appendOp("a", "1"), appendOp("a", "2"), appendOp("a", "3"))
	for _, keep := range [][]int64{{0, 0}, {1, 0}, {0, 2, 1}, {0, 1, 1}, {-1}, {-1, 0}, {low}, {3}, {0, 3}, {0, 1, 2, 3}, {top}, {2, 1, 0}} {
		if e, ok := impl.Crash(d, keep, 9); ok || !isZeroDisk(e) {
			t.Error("keep is wrong", keep, brief(e))
		}
	}
	for _, torn := range []int64{-1, low} {
		for _, keep := range [][]int64{nil, {0}, {0, 1, 2}} {
			if e, ok := impl.Crash(d, keep, torn); ok || !isZeroDisk(e) {
				t.Error("torn is below 0", keep, brief(e))
			}
		}
	}
	if _, ok := impl.Crash(impl.Disk{}, []int64{0}, 0); ok {
		t.Error("there are no ops")
	}
	if e, ok := impl.Crash(impl.Disk{}, nil, 0); !ok || !isZeroDisk(e) {
		t.Error("nothing is left of nothing", ok)
	}
}

// What is too much is asked at the end, not between two ops.
func TestCrashWithTooMuchAtTheEnd(t *testing.T) {
	much := strings.Repeat("x", impl.MaxBytes)
	d := done(t, synced(impl.File{Name: "a", Data: much}), removeOp("a"), appendOp("b", "12"), removeOp("b"), appendOp("c", ""))
	for _, one := range []struct {
		keep []int64
		torn int64
		ok   bool
	}{{[]int64{1}, 2, false}, {[]int64{1}, 1, false}, {[]int64{1}, 0, true}, {[]int64{1, 2}, 0, true}, {[]int64{1, 3}, 0, false}, {[]int64{0, 1}, 2, true}, {[]int64{0, 1, 2, 3}, 0, true}} {
		e, ok := impl.Crash(d, one.keep, one.torn)
		if ok != one.ok || ok && !impl.DiskOk(e) || !ok && !isZeroDisk(e) {
			t.Error("bytes", one.keep, one.torn, ok)
		}
	}
	files := numberedFiles(impl.MaxFiles, "")
	d = done(t, synced(files...), removeOp("f00"), appendOp("y", ""), removeOp("y"), appendOp("z", ""))
	for _, one := range []struct {
		keep []int64
		ok   bool
	}{{[]int64{1}, false}, {[]int64{1, 2}, true}, {[]int64{3}, false}, {[]int64{1, 2, 3}, false}, {[]int64{0, 1}, true}, {[]int64{0, 1, 3}, false}} {
		e, ok := impl.Crash(d, one.keep, 0)
		if ok != one.ok || ok && !impl.DiskOk(e) || !ok && !isZeroDisk(e) {
			t.Error("files", one.keep, ok)
		}
	}
}

func TestReplaceGoesAsTold(t *testing.T) {
	d := &dice{115}
	codes := map[int64]int{}
	names := append([]string{"", "x", strings.Repeat("n", 96), strings.Repeat("n", 97), strings.Repeat("n", 101)}, fileNames...)
	for range 3000 {
		k := d.bent()
		name := names[d.upTo(int64(len(names)))]
		data := strings.Repeat("r", int(d.upTo(4)))
		if d.upTo(10) == 0 {
			data = strings.Repeat("r", int(impl.MaxBytes-20+d.upTo(30)))
		}
		want, wantCode := replaceAsTold(k, name, data)
		got, code := impl.Replace(k, name, data)
		if code != wantCode || !sameDisk(got, want) {
			t.Fatal("Replace", name, len(data), "told", code, "not", wantCode, brief(got))
		}
		codes[code]++
	}
	for _, code := range []int64{impl.DkOk, impl.DkDisk, impl.DkForm, impl.DkFull} {
		if codes[code] == 0 {
			t.Error("a code is not met", code, codes)
		}
	}
}

func TestReplaceAtItsEdges(t *testing.T) {
	d := synced(impl.File{Name: "a", Data: "1"}, impl.File{Name: "b.new", Data: "2"})
	e, code := impl.Replace(d, "a", "new")
	if code != impl.DkOk || !slices.Equal(e.Ops, []impl.DOp{appendOp("a.new", "new"), renameOp("a.new", "a")}) || !slices.Equal(e.Live, []impl.File{{Name: "a", Data: "new"}, {Name: "b.new", Data: "2"}}) {
		t.Error("a file that is there", code, brief(e))
	}
	e, code = impl.Replace(d, "b", "new")
	if code != impl.DkOk || !slices.Equal(e.Ops, []impl.DOp{removeOp("b.new"), appendOp("b.new", "new"), renameOp("b.new", "b")}) || !slices.Equal(e.Live, []impl.File{{Name: "a", Data: "1"}, {Name: "b", Data: "new"}}) {
		t.Error("the other name is there already", code, brief(e))
	}
	if e, code = impl.Replace(impl.Disk{}, "c", ""); code != impl.DkOk || !slices.Equal(e.Live, []impl.File{{Name: "c"}}) || len(e.Ops) != 2 {
		t.Error("by nothing", code, brief(e))
	}
	much := strings.Repeat("x", impl.MaxBytes)
	full := synced(impl.File{Name: "a", Data: "1"}, impl.File{Name: "a.new", Data: much[1:]})
	for _, one := range []struct {
		d    impl.Disk
		name string
		data string
		code int64
	}{
		{d, "", "x", impl.DkForm},
		{d, "", much, impl.DkFull},
		{d, strings.Repeat("n", 96), "x", impl.DkOk},
		{d, strings.Repeat("n", 97), "x", impl.DkForm},
		{d, strings.Repeat("n", 100), "x", impl.DkForm},
		{d, strings.Repeat("n", 101), "x", impl.DkForm},
		{d, "a", much[2:], impl.DkOk},
		{d, "a", much[1:], impl.DkFull},
		{full, "a", much[1:], impl.DkOk},
		{full, "a", much, impl.DkFull},
		{full, "b", "", impl.DkOk},
		{full, "b", "x", impl.DkFull},
		{synced(numberedFiles(impl.MaxFiles, "")...), "f00", "", impl.DkFull},
		{synced(numberedFiles(impl.MaxFiles-1, "")...), "f00", "", impl.DkOk},
		{impl.Disk{Live: []impl.File{{Name: "a"}}, Ops: slices.Repeat([]impl.DOp{appendOp("a", "")}, impl.MaxOps-2)}, "a", "", impl.DkOk},
		{impl.Disk{Live: []impl.File{{Name: "a"}}, Ops: slices.Repeat([]impl.DOp{appendOp("a", "")}, impl.MaxOps-1)}, "a", "", impl.DkFull},
		{impl.Disk{Live: []impl.File{{Name: "a.new"}}, Ops: slices.Repeat([]impl.DOp{appendOp("a.new", "")}, impl.MaxOps-2)}, "a", "", impl.DkFull},
		{impl.Disk{Live: []impl.File{{Name: "a.new"}}, Ops: slices.Repeat([]impl.DOp{appendOp("a.new", "")}, impl.MaxOps-3)}, "a", "", impl.DkOk},
	} {
		e, code := impl.Replace(one.d, one.name, one.data)
		if code != one.code || code != impl.DkOk && !sameDisk(e, one.d) {
			t.Error(len(one.name), len(one.data), "told", code, "not", one.code, brief(e))
		}
		if s, ok := impl.ReadFile(e, one.name); code == impl.DkOk && (!ok || s != one.data) {
			t.Error("it is not read", one.name)
		}
	}
}

// Great files with many ops: what is copied more than it must be is seen in
// how long this takes.
func TestDisksOfGreatFiles(t *testing.T) {
	much := strings.Repeat("x", impl.MaxBytes)
	d := impl.Disk{}
	for n := 0; n < impl.MaxOps; n += 2 {
		d.Ops = append(d.Ops, appendOp("a", much), removeOp("a"))
	}
	if !impl.DiskOk(d) {
		t.Fatal("it is right")
	}
	keep := []int64{}
	for n := int64(0); n < impl.MaxOps; n += 2 {
		keep = append(keep, n)
	}
	if _, ok := impl.Crash(d, keep, 1<<40); ok {
		t.Error("that is too much")
	}
	if e, ok := impl.Crash(d, append(keep, impl.MaxOps-1), 0); !ok || !isZeroDisk(e) {
		t.Error("all is gone at the end", ok)
	}
}

// roomyDisk has marks in the spare room behind each of its lists.
func roomyDisk(d impl.Disk) impl.Disk {
	return impl.Disk{
		Live: append(slices.Clone(d.Live), impl.File{Name: "mark"})[:len(d.Live)],
		Safe: append(slices.Clone(d.Safe), impl.File{Name: "mark"})[:len(d.Safe)],
		Ops:  append(slices.Clone(d.Ops), removeOp("mark"))[:len(d.Ops)],
	}
}

func untouchedDisk(roomed impl.Disk, d impl.Disk) bool {
	return sameDisk(impl.Disk{Live: roomed.Live[:len(d.Live)+1], Safe: roomed.Safe[:len(d.Safe)+1], Ops: roomed.Ops[:len(d.Ops)+1]}, impl.Disk{
		Live: append(slices.Clone(d.Live), impl.File{Name: "mark"}),
		Safe: append(slices.Clone(d.Safe), impl.File{Name: "mark"}),
		Ops:  append(slices.Clone(d.Ops), removeOp("mark")),
	})
}

// spoilDisk writes over a disk, list by list, and tells whether one changed
// with another one.
func spoilDisk(d impl.Disk) bool {
	safe, ops := slices.Clone(d.Safe), slices.Clone(d.Ops)
	for at := range d.Live[:cap(d.Live)] {
		d.Live[:cap(d.Live)][at] = impl.File{Name: "spoilt"}
	}
	alone := slices.Equal(d.Safe, safe) && slices.Equal(d.Ops, ops)
	for at := range d.Safe[:cap(d.Safe)] {
		d.Safe[:cap(d.Safe)][at] = impl.File{Name: "spoilt"}
	}
	for at := range d.Ops[:cap(d.Ops)] {
		d.Ops[:cap(d.Ops)][at] = impl.DOp{Name: "spoilt"}
	}
	return alone
}

func cloneDisk(d impl.Disk) impl.Disk {
	return impl.Disk{Live: slices.Clone(d.Live), Safe: slices.Clone(d.Safe), Ops: slices.Clone(d.Ops)}
}

func TestPromise15DisksLeaveArgumentsAlone(t *testing.T) {
	d := &dice{116}
	for range 1000 {
		k := d.disk()
		if d.upTo(5) == 0 {
			k = wrongDisks()[d.upTo(24)]
		}
		l, op := roomyDisk(k), d.op()
		keep := d.keep(len(k.Ops))
		places := roomy(keep)
		answers := func() ([]impl.Disk, []int64) {
			done, code := impl.Do(l, op)
			crashed, ok := impl.Crash(l, places, 2)
			replaced, other := impl.Replace(l, "a", "data")
			codes := []int64{code, other}
			if ok && impl.DiskOk(l) {
				codes = append(codes, 1)
			}
			return []impl.Disk{done, impl.Sync(l), crashed, replaced}, codes
		}
		first, codes := answers()
		kept := []impl.Disk{}
		for _, e := range first {
			kept = append(kept, cloneDisk(e))
		}
		for at, e := range first {
			if !sameDisk(e, kept[at]) || !spoilDisk(e) {
				t.Fatal("lists of answers share memory", at, brief(k))
			}
		}
		if !untouchedDisk(l, k) || !untouched(places, keep) {
			t.Fatal("an argument is changed", brief(k), brief(l))
		}
		second, again := answers()
		if !slices.Equal(again, codes) || !slices.EqualFunc(second, kept, sameDisk) {
			t.Fatal("another answer the second time", brief(k))
		}
	}
}
