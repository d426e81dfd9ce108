package model_test

import (
	"math"
	"math/rand"
	"slices"
	"strconv"
	"testing"

	"tollhouse/api"
	"tollhouse/ask"
	"tollhouse/caps"
	"tollhouse/cell"
	"tollhouse/model"
	"tollhouse/ops"
)

// made is a model of volumes of those names and sizes.
func made(t *testing.T, l ...api.Volume) *model.Model {
	t.Helper()
	m := model.New()
	for _, v := range l {
		wantMade(t, m, v.Name, len(v.Blocks))
	}
	return m
}

// some are two volumes, of three blocks and one.
func some() []api.Volume {
	return []api.Volume{{Name: "data", Blocks: make([]int, 3)}, {Name: "x", Blocks: make([]int, 1)}}
}

// wantMade makes a volume.
func wantMade(t *testing.T, m *model.Model, name string, n int) {
	t.Helper()
	if e := m.Make(name, n); e != api.OK {
		t.Errorf("make %q %d: error %d", name, n, e)
	}
}

// wantNotMade holds Make against that error, and that nothing changes.
func wantNotMade(t *testing.T, m *model.Model, name string, n int, want api.Errno) {
	t.Helper()
	names, free := m.Names(), m.Free()
	if e := m.Make(name, n); e != want {
		t.Errorf("make %q %d: error %d, want %d", name, n, e, want)
	}
	wantVolumes(t, m, free, names...)
}

// wantVolumes holds Free and Names against those.
func wantVolumes(t *testing.T, m *model.Model, free int, names ...string) {
	t.Helper()
	if got := m.Names(); !slices.Equal(got, names) || m.Free() != free {
		t.Errorf("%q, %d free, want %q, %d", got, m.Free(), names, free)
	}
}

// wantRead holds Read against that block.
func wantRead(t *testing.T, m *model.Model, name string, at int, want api.Block) {
	t.Helper()
	if got, e := m.Read(name, at); e != api.OK || got != want {
		t.Errorf("%q at %d: %x, error %d, want %x", name, at, got, e, want)
	}
}

// wantWritten writes a block.
func wantWritten(t *testing.T, m *model.Model, name string, at int, data api.Block) {
	t.Helper()
	if e := m.Write(name, at, data); e != api.OK {
		t.Errorf("%q at %d: error %d", name, at, e)
	}
}

// wantNoBlock holds Read and Write against that error.
func wantNoBlock(t *testing.T, m *model.Model, name string, at int, want api.Errno) {
	t.Helper()
	if got, e := m.Read(name, at); e != want || got != (api.Block{}) {
		t.Errorf("read %q at %d: %x, error %d, want %d", name, at, got, e, want)
	}
	if e := m.Write(name, at, api.Block{1}); e != want {
		t.Errorf("write %q at %d: error %d, want %d", name, at, e, want)
	}
}

// P29.1: a new model has no volumes; each is another one.
func TestNew(t *testing.T) {
	m, other := model.New(), model.New()
	wantVolumes(t, m, 11)
	wantMade(t, m, "a", 2)
	wantVolumes(t, m, 9, "a")
	wantVolumes(t, other, 11)
}

// P29.1: of nil: ErrArg, none, 0.
func TestNil(t *testing.T) {
	var m *model.Model
	for _, name := range []string{"a", "", "A"} {
		for _, n := range []int{0, 1, 5, -1} {
			if e := m.Make(name, n); e != api.ErrArg {
				t.Errorf("make: error %d", e)
			}
			wantNoBlock(t, m, name, n, api.ErrArg)
		}
		if e := m.Gone(name); e != api.ErrArg {
			t.Errorf("gone: error %d", e)
		}
	}
	if len(m.Names()) != 0 || m.Free() != 0 {
		t.Error("something of nil")
	}
}

// P29.1, P29.2: volumes of each size; Names in the order in which they were made, Free less their blocks.
func TestMake(t *testing.T) {
	for n := 1; n <= 4; n++ {
		m := model.New()
		wantMade(t, m, "z", n)
		wantVolumes(t, m, 11-n, "z")
		for at := range n {
			wantRead(t, m, "z", at, api.Block{})
		}
		wantMade(t, m, "mmmm", 4)
		wantMade(t, m, "a", 11-4-max(n, 3))
		wantVolumes(t, m, max(n, 3)-n, "z", "mmmm", "a")
	}
}

// P29.2: Make's errors, each by itself.
func TestMakeErrors(t *testing.T) {
	for _, name := range []string{"", "Data", "abcde", "a b", "a1", "\x00", "a\x00", "é", "*"} {
		wantNotMade(t, model.New(), name, 1, api.ErrForm)
		wantNotMade(t, made(t, some()...), name, 1, api.ErrForm)
	}
	wantNotMade(t, made(t, some()...), "data", 1, api.ErrName)
	wantNotMade(t, made(t, some()...), "x", 1, api.ErrName)
	for _, n := range []int{0, -1, 5, 6, 11, 12, 257, 1<<32 + 1, math.MaxInt, math.MinInt} {
		wantNotMade(t, model.New(), "a", n, api.ErrRange)
		wantNotMade(t, made(t, some()...), "a", n, api.ErrRange)
	}
	full := made(t, append(some(), api.Volume{Name: "b", Blocks: make([]int, 1)})...)
	for n := 1; n <= 4; n++ {
		wantNotMade(t, full, "c", n, api.ErrQuota)
	}
	tight := made(t, api.Volume{Name: "a", Blocks: make([]int, 4)}, api.Volume{Name: "b", Blocks: make([]int, 4)})
	wantNotMade(t, tight, "c", 4, api.ErrQuota)
	wantMade(t, tight, "c", 3)
	wantVolumes(t, tight, 0, "a", "b", "c")
}

// P29.2: which of Make's errors it is where several could be: the name's form, the name, n, the quota.
func TestMakeErrorsInOrder(t *testing.T) {
	full := made(t, append(some(), api.Volume{Name: "b", Blocks: make([]int, 4)})...)
	for _, n := range []int{1, 4, 0, 5, -1} {
		wantNotMade(t, full, "A", n, api.ErrForm)
		wantNotMade(t, full, "", n, api.ErrForm)
		wantNotMade(t, full, "data", n, api.ErrName)
		e := api.ErrRange
		if n == 1 || n == 4 {
			e = api.ErrQuota
		}
		wantNotMade(t, full, "c", n, e)
	}
}

// P29.2: Gone: the others stay, in their order, and so does what was written; there is room again.
func TestGone(t *testing.T) {
	m := made(t, append(some(), api.Volume{Name: "b", Blocks: make([]int, 2)})...)
	wantWritten(t, m, "data", 2, api.Block{1})
	wantWritten(t, m, "b", 1, api.Block{2})
	for _, name := range []string{"", "c", "dat", "datas", "Data", "A"} {
		if e := m.Gone(name); e != api.ErrName {
			t.Errorf("%q: error %d", name, e)
		}
	}
	wantVolumes(t, m, 5, "data", "x", "b")
	if e := m.Gone("x"); e != api.OK {
		t.Errorf("error %d", e)
	}
	wantVolumes(t, m, 6, "data", "b")
	if e := m.Gone("x"); e != api.ErrName {
		t.Errorf("error %d", e)
	}
	wantNoBlock(t, m, "x", 0, api.ErrName)
	wantRead(t, m, "data", 2, api.Block{1})
	wantRead(t, m, "b", 1, api.Block{2})
	wantMade(t, m, "x", 4)
	wantVolumes(t, m, 2, "data", "b", "x")
	for _, name := range []string{"b", "data", "x"} {
		if e := m.Gone(name); e != api.OK {
			t.Errorf("%q: error %d", name, e)
		}
	}
	wantVolumes(t, m, 11)
}

// P29.2: a volume that is gone and made anew has zeros.
func TestMadeAnew(t *testing.T) {
	m := made(t, some()...)
	for at := range 3 {
		wantWritten(t, m, "data", at, api.Block{byte(at + 1)})
	}
	m.Gone("data")
	wantMade(t, m, "data", 4)
	for at := range 4 {
		wantRead(t, m, "data", at, api.Block{})
	}
	wantMade(t, m, "new", 3)
	for at := range 3 {
		wantRead(t, m, "new", at, api.Block{})
	}
}

// P29.2: zeros ahead of the first Write, then the last Write's bytes, of that place of that volume alone.
func TestWriteAndRead(t *testing.T) {
	m := made(t, some()...)
	for k, at := range []int{0, 2, 0, 1, 2} {
		data := api.Block{byte(k + 1), 31: byte(at)}
		wantWritten(t, m, "data", at, data)
		wantRead(t, m, "data", at, data)
	}
	for at, k := range []byte{3, 4, 5} {
		wantRead(t, m, "data", at, api.Block{k, 31: byte(at)})
	}
	wantRead(t, m, "x", 0, api.Block{})
	wantWritten(t, m, "data", 1, api.Block{})
	wantRead(t, m, "data", 1, api.Block{})
}

// P29.2: ErrName of no such volume, whatever the place is; ErrRange at -1, and behind the last one.
func TestNoBlock(t *testing.T) {
	m := made(t, some()...)
	for _, at := range []int{-1, -2, 4, 5, 255, 1 << 32, -1 << 32, math.MaxInt, math.MinInt} {
		wantNoBlock(t, m, "data", at, api.ErrRange)
		wantNoBlock(t, m, "x", at, api.ErrRange)
	}
	wantNoBlock(t, m, "data", 3, api.ErrRange)
	wantNoBlock(t, m, "x", 1, api.ErrRange)
	for _, name := range []string{"", "y", "dat", "datas", "X", "\x00"} {
		for _, at := range []int{0, 1, -1, 4, math.MaxInt} {
			wantNoBlock(t, m, name, at, api.ErrName)
			wantNoBlock(t, model.New(), name, at, api.ErrName)
		}
	}
	for at := range 3 {
		wantRead(t, m, "data", at, api.Block{})
	}
}

// Rule 2: the names that were told may be changed, their spare room too.
func TestNamesAreNew(t *testing.T) {
	m := made(t, some()...)
	first, second := m.Names(), m.Names()
	clear(first[:cap(first)])
	wantMade(t, m, "b", 1)
	wantVolumes(t, m, 6, "data", "x", "b")
	if !slices.Equal(second, []string{"data", "x"}) {
		t.Error(second)
	}
}

// P29.2: by lot: Make, Gone, and the places of blocks are as ops has them, by a table of its own.
func TestIsOps(t *testing.T) {
	lot := rand.New(rand.NewSource(292))
	seen := map[api.Errno]int{}
	names := []string{"a", "b", "c", "data", "", "A"}
	for range 300 {
		m := model.New()
		var table api.Block
		blocks := map[int]api.Block{}
		for range 100 {
			name, n := names[lot.Intn(len(names))], lot.Intn(8)-1
			var puts []api.Put
			var e, f api.Errno
			data := api.Block{byte(lot.Intn(256)), 1}
			switch lot.Intn(8) {
			case 0, 1, 2:
				puts, e = ops.Make(table, name, n)
				f = m.Make(name, n)
			case 3:
				puts, e = ops.Gone(table, name)
				f = m.Gone(name)
			case 4, 5:
				puts, e = ops.Write(table, name, n, data)
				f = m.Write(name, n, data)
			default:
				var at int
				at, e = ops.Place(table, name, n)
				var got api.Block
				if got, f = m.Read(name, n); f == api.OK && got != blocks[at] {
					t.Fatalf("%q at %d: %x, want %x", name, n, got, blocks[at])
				}
			}
			if seen[e]++; e != f {
				t.Fatalf("%q, %d: error %d, want %d", name, n, f, e)
			}
			for _, p := range puts {
				blocks[p.At] = p.Data
			}
			table = blocks[0]
			var want []string
			used := 1
			for _, v := range ops.Volumes(table) {
				want = append(want, v.Name)
				used += len(v.Blocks)
			}
			wantVolumes(t, m, 12-used, want...)
		}
	}
	for _, e := range []api.Errno{api.OK, api.ErrForm, api.ErrName, api.ErrRange, api.ErrQuota} {
		if seen[e] < 100 {
			t.Errorf("no error %d: %v", e, seen)
		}
	}
}

// run is a cell, its model, and what waits for an answer, by Id.
type run struct {
	t *testing.T
	*cell.Cell
	*model.Model
	tok     api.Token
	id      int
	waiting map[int]func() api.Errno // what the model says when it is answered
	order   []int                    // of the answers of what waited
	seen    map[api.Errno]int
}

// newRun is one of a new cell.
func newRun(t *testing.T, seen map[api.Errno]int) *run {
	t.Helper()
	key := []byte("key")
	c, e := cell.New(1, key)
	if e != api.OK {
		t.Fatalf("error %d", e)
	}
	tok, _ := caps.Mint(key, api.Claim{Place: 1, Rights: 3, Until: 9, Gen: 1})
	return &run{t: t, Cell: c, Model: model.New(), tok: tok, waiting: map[int]func() api.Errno{}, seen: seen}
}

// hears lets the model do what was answered.
func (r *run) hears(l []api.Reply) {
	r.t.Helper()
	for _, got := range l {
		says, ok := r.waiting[got.Id]
		if !ok {
			r.t.Fatalf("%v: nothing waits", got)
		}
		delete(r.waiting, got.Id)
		r.seen[got.E]++
		if got.E == api.ErrQueue {
			continue
		}
		if want := says(); got.E != want || len(got.Data) != 0 {
			r.t.Fatalf("%v, want error %d", got, want)
		}
		if len(r.order) > 0 && r.order[len(r.order)-1] > got.Id {
			r.t.Fatalf("%v behind %d", got, r.order[len(r.order)-1])
		}
		r.order = append(r.order, got.Id)
	}
}

// says hands in a line that waits.
func (r *run) says(line string, does func() api.Errno) {
	r.t.Helper()
	r.id++
	r.waiting[r.id] = does
	r.hears(r.Cell.Line(0, line))
}

// asks is a request's bytes.
func (r *run) asks(kind int, volume string, at int, data api.Block) []byte {
	r.t.Helper()
	b, e := ask.Encode(api.Ask{Kind: kind, Token: r.tok, Volume: volume, At: at, Data: data})
	if e != api.OK {
		r.t.Fatalf("error %d", e)
	}
	return b
}

// writes hands in a write.
func (r *run) writes(volume string, at int, data api.Block) {
	r.t.Helper()
	r.id++
	r.waiting[r.id] = func() api.Errno { return r.Model.Write(volume, at, data) }
	r.hears(r.Cell.Ask(0, r.asks(api.AskWrite, volume, at, data)))
}

// reads hands in a read, and holds what is told against the model's.
func (r *run) reads(volume string, at int) {
	r.t.Helper()
	r.id++
	l := r.Cell.Ask(0, r.asks(api.AskRead, volume, at, api.Block{}))
	want, e := r.Model.Read(volume, at)
	if len(l) != 1 || l[0].Id != r.id || l[0].E != e || e == api.OK && api.Block(l[0].Data) != want || e != api.OK && len(l[0].Data) != 0 {
		r.t.Fatalf("%q at %d: %v, want %x, error %d", volume, at, l, want, e)
	}
	r.seen[e]++
}

// promotes lets the other node be the primary, where nothing waits and both have the same.
func (r *run) promotes() {
	r.t.Helper()
	if r.Queued() > 0 || !r.Cell.Desk().Sync {
		return
	}
	r.id++
	if l := r.Cell.Line(0, "promote "+strconv.Itoa(1-r.Cell.Desk().Primary)); len(l) != 1 || l[0].E != api.OK {
		r.t.Fatalf("%v", l)
	}
}

// P29.3: by lot over many runs without crashes: a cell's reads and errors are the model's, by what was answered, in order, over any fates and cuts, and with the one node or the other one as primary.
func TestCellIsModel(t *testing.T) {
	lot := rand.New(rand.NewSource(29))
	seen := map[api.Errno]int{}
	names := []string{"a", "b", "cc", "data"}
	for range 250 {
		r := newRun(t, seen)
		for range 200 {
			name := names[lot.Intn(4)]
			switch k := lot.Intn(20); {
			case k < 2:
				n := lot.Intn(6)
				r.says("make "+name+" "+strconv.Itoa(n), func() api.Errno { return r.Model.Make(name, n) })
			case k < 3:
				r.says("gone "+name, func() api.Errno { return r.Model.Gone(name) })
			case k < 8:
				var data api.Block
				lot.Read(data[:])
				r.writes(name, lot.Intn(5), data)
			case k < 13:
				r.reads(name, lot.Intn(5))
			case k < 14:
				r.promotes()
			case k < 15:
				r.hears(r.Cell.Slot(false))
			default:
				r.Fate(lot.Intn(16) & lot.Intn(16))
				r.hears(r.Cell.Slot(true))
			}
		}
	}
	for _, e := range []api.Errno{api.OK, api.ErrName, api.ErrRange, api.ErrQuota, api.ErrQueue} {
		if seen[e] < 100 {
			t.Errorf("no error %d: %v", e, seen)
		}
	}
}
