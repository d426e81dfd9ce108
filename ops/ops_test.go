package ops_test

import (
	"math"
	"math/rand"
	"slices"
	"testing"

	"tollhouse/api"
	"tollhouse/ops"
)

// volume is one of that name and those blocks.
func volume(name string, blocks ...int) api.Volume {
	return api.Volume{Name: name, Blocks: blocks}
}

// tableOf is the volumes' block, as the chapter of layer 12 has it.
func tableOf(l ...api.Volume) api.Block {
	b := api.Block{byte(len(l))}
	for i, v := range l {
		part := b[1+9*i:]
		copy(part, v.Name)
		part[4] = byte(len(v.Blocks))
		for k, block := range v.Blocks {
			part[5+k] = byte(block)
		}
	}
	return b
}

// zerosTo are puts of zeros to those blocks.
func zerosTo(blocks ...int) []api.Put {
	var all []api.Put
	for _, b := range blocks {
		all = append(all, api.Put{At: b})
	}
	return all
}

// alike tells whether the volumes are the same, one by one.
func alike(a, b []api.Volume) bool {
	return slices.EqualFunc(a, b, func(x, y api.Volume) bool { return x.Name == y.Name && slices.Equal(x.Blocks, y.Blocks) })
}

// some are volumes with room beside them for one more, and for four blocks.
func some() []api.Volume {
	return []api.Volume{volume("data", 4, 2, 9), volume("x", 7)}
}

// full are MaxVols volumes, with blocks left.
func full() []api.Volume {
	return []api.Volume{volume("b", 3), volume("a", 1, 2), volume("cccc", 11, 10, 9, 8)}
}

// nobodys are blocks that are no table's.
func nobodys() []api.Block {
	twice := tableOf(volume("a", 1), volume("a", 2))
	return []api.Block{{1}, {4}, {255}, {31: 1}, {0, 'a', 0, 0, 0, 1, 1}, {1, 'A', 0, 0, 0, 1, 1}, {1, 'a', 0, 0, 0, 1, 0}, twice}
}

// wantPuts holds what a call told against those puts.
func wantPuts(t *testing.T, got []api.Put, e api.Errno, want ...api.Put) {
	t.Helper()
	if e != api.OK || !slices.Equal(got, want) {
		t.Errorf("%v, error %d, want %v", got, e, want)
	}
}

// wantNoPuts holds what a call told against that error, and nothing else.
func wantNoPuts(t *testing.T, got []api.Put, e, want api.Errno) {
	t.Helper()
	if e != want || len(got) != 0 {
		t.Errorf("%v, error %d, want error %d", got, e, want)
	}
}

// wantMade holds Make in a table of those volumes against taking those blocks.
func wantMade(t *testing.T, l []api.Volume, name string, blocks ...int) {
	t.Helper()
	got, e := ops.Make(tableOf(l...), name, len(blocks))
	behind := tableOf(append(slices.Clone(l), volume(name, blocks...))...)
	wantPuts(t, got, e, append(zerosTo(blocks...), api.Put{At: 0, Data: behind})...)
}

// wantNotMade holds Make in a table of those volumes against that error.
func wantNotMade(t *testing.T, l []api.Volume, name string, n int, want api.Errno) {
	t.Helper()
	got, e := ops.Make(tableOf(l...), name, n)
	wantNoPuts(t, got, e, want)
}

// wantPlace holds Place against that block.
func wantPlace(t *testing.T, b api.Block, name string, at, want int) {
	t.Helper()
	if got, e := ops.Place(b, name, at); e != api.OK || got != want {
		t.Errorf("%q at %d: %d, error %d, want %d", name, at, got, e, want)
	}
}

// wantNoPlace holds Place, and Write, which tells its errors, against that error.
func wantNoPlace(t *testing.T, b api.Block, name string, at int, want api.Errno) {
	t.Helper()
	if got, e := ops.Place(b, name, at); e != want || got != 0 {
		t.Errorf("%q at %d: %d, error %d, want error %d", name, at, got, e, want)
	}
	got, e := ops.Write(b, name, at, api.Block{1, 2, 3})
	wantNoPuts(t, got, e, want)
	got, e = ops.Write(b, name, at, api.Block{})
	wantNoPuts(t, got, e, want)
}

// P13.1: the volumes of a table, and none of what is none.
func TestVolumes(t *testing.T) {
	for _, l := range [][]api.Volume{nil, some()[:1], some(), full()} {
		if got := ops.Volumes(tableOf(l...)); !alike(got, l) {
			t.Errorf("%v, want %v", got, l)
		}
	}
	for _, b := range nobodys() {
		if got := ops.Volumes(b); len(got) != 0 {
			t.Errorf("%x: %v", b, got)
		}
	}
}

// P13.1, P13.2: each place of each volume, for Place and for Write.
func TestPlaces(t *testing.T) {
	data := api.Block{1, 2, 3, 31: 4}
	for _, l := range [][]api.Volume{some(), full()} {
		b := tableOf(l...)
		for _, v := range l {
			for at, block := range v.Blocks {
				wantPlace(t, b, v.Name, at, block)
				got, e := ops.Write(b, v.Name, at, data)
				wantPuts(t, got, e, api.Put{At: block, Data: data})
				got, e = ops.Write(b, v.Name, at, api.Block{})
				wantPuts(t, got, e, api.Put{At: block})
			}
			for _, at := range []int{-1, -2, len(v.Blocks), len(v.Blocks) + 1, 4, 5, 11, 12, 32, 256, -256, 1 << 32, -1 << 32, math.MaxInt, math.MinInt} {
				wantNoPlace(t, b, v.Name, at, api.ErrRange)
			}
		}
	}
}

// P13.1, P13.2: no such volume; ErrName goes ahead of ErrRange.
func TestNoSuchPlace(t *testing.T) {
	for _, name := range []string{"", "a", "dat", "datas", "Data", "DATA", "xx", "\x00", "x\x00", "data\x00", "a name that is far too long"} {
		for _, at := range []int{0, 1, 2, -1, 3, 4, math.MaxInt, math.MinInt} {
			wantNoPlace(t, tableOf(some()...), name, at, api.ErrName)
			wantNoPlace(t, tableOf(), name, at, api.ErrName)
			for _, b := range nobodys() {
				wantNoPlace(t, b, name, at, api.ErrName)
			}
		}
	}
}

// P13.2: the chapter's example, and each number of blocks, the least free ones, rising, the table behind them.
func TestMake(t *testing.T) {
	got, e := ops.Make(api.Block{}, "data", 2)
	if len(got) != 3 || e != api.OK {
		t.Errorf("%v, error %d", got, e)
	}
	wantPuts(t, got, e, api.Put{At: 1}, api.Put{At: 2}, api.Put{At: 0, Data: api.Block{1, 'd', 'a', 't', 'a', 2, 1, 2}})
	for n := 1; n <= 4; n++ {
		wantMade(t, nil, "a", []int{1, 2, 3, 4}[:n]...)
		wantMade(t, some()[:1], "log", []int{1, 3, 5, 6}[:n]...)
		wantMade(t, some(), "zzzz", []int{1, 3, 5, 6}[:n]...)
		wantMade(t, some()[1:], "data", []int{1, 2, 3, 4}[:n]...)
	}
	wantMade(t, []api.Volume{volume("a", 1, 2, 3, 4), volume("b", 5, 6, 7)}, "c", 8, 9, 10, 11)
	wantMade(t, []api.Volume{volume("a", 11, 10, 9, 8), volume("b", 7, 6, 5, 4)}, "c", 1, 2, 3)
	// The table's order is that in which they were made, not that of names or blocks.
	got, e = ops.Make(tableOf(volume("m", 5), volume("z", 1)), "a", 1)
	wantPuts(t, got, e, api.Put{At: 2}, api.Put{At: 0, Data: api.Block{3, 'm', 0, 0, 0, 1, 5, 0, 0, 0, 'z', 0, 0, 0, 1, 1, 0, 0, 0, 'a', 0, 0, 0, 1, 2}})
}

// P13.2: Make's errors, each by itself.
func TestMakeErrors(t *testing.T) {
	for _, name := range []string{"", "Data", "abcde", "a b", "a1", "\x00", "a\x00", "é"} {
		wantNotMade(t, nil, name, 1, api.ErrForm)
		wantNotMade(t, some(), name, 2, api.ErrForm)
	}
	wantNotMade(t, some(), "data", 1, api.ErrName)
	wantNotMade(t, some(), "x", 1, api.ErrName)
	for _, n := range []int{0, -1, -4, 5, 6, 11, 12, 257, 1<<32 + 1, math.MaxInt, math.MinInt} {
		wantNotMade(t, nil, "a", n, api.ErrRange)
		wantNotMade(t, some(), "a", n, api.ErrRange)
	}
	for n := 1; n <= 4; n++ {
		wantNotMade(t, full(), "d", n, api.ErrQuota)
	}
	wantNotMade(t, []api.Volume{volume("a", 1, 2, 3, 4), volume("b", 5, 6, 7, 8)}, "c", 4, api.ErrQuota)
	wantNotMade(t, []api.Volume{volume("a", 11, 1, 10, 2), volume("b", 5, 6, 7, 8)}, "c", 4, api.ErrQuota)
}

// P13.2: which of Make's errors it is where several could be: the name's form, then the name, then n, then the quota.
func TestMakeErrorsInOrder(t *testing.T) {
	tight := []api.Volume{volume("a", 1, 2, 3, 4), volume("b", 5, 6, 7, 8)}
	for _, n := range []int{0, -1, 5, math.MaxInt, math.MinInt} {
		wantNotMade(t, some(), "Data", n, api.ErrForm)
		wantNotMade(t, full(), "", n, api.ErrForm)
		wantNotMade(t, some(), "data", n, api.ErrName)
		wantNotMade(t, full(), "cccc", n, api.ErrName)
		wantNotMade(t, full(), "d", n, api.ErrRange)
		wantNotMade(t, tight, "d", n, api.ErrRange)
	}
	for _, n := range []int{1, 4} {
		wantNotMade(t, full(), "D", n, api.ErrForm)
		wantNotMade(t, tight, "D", n, api.ErrForm)
		wantNotMade(t, full(), "a", n, api.ErrName)
		wantNotMade(t, tight, "b", n, api.ErrName)
	}
}

// P13.2: Gone of each volume of a table leaves the others in their order, and puts nothing else.
func TestGone(t *testing.T) {
	for _, l := range [][]api.Volume{some()[:1], some(), full()} {
		for i, v := range l {
			got, e := ops.Gone(tableOf(l...), v.Name)
			wantPuts(t, got, e, api.Put{At: 0, Data: tableOf(slices.Delete(slices.Clone(l), i, i+1)...)})
		}
	}
	got, e := ops.Gone(api.Block{3, 'b', 0, 0, 0, 1, 3, 0, 0, 0, 'a', 0, 0, 0, 2, 1, 2, 0, 0, 'c', 0, 0, 0, 1, 4}, "b")
	wantPuts(t, got, e, api.Put{At: 0, Data: api.Block{2, 'a', 0, 0, 0, 2, 1, 2, 0, 0, 'c', 0, 0, 0, 1, 4}})
	got, e = ops.Gone(api.Block{1, 'b', 0, 0, 0, 1, 3}, "b")
	wantPuts(t, got, e, api.Put{})
	for _, name := range []string{"", "c", "dat", "datas", "Data", "x\x00", "\x00"} {
		got, e = ops.Gone(tableOf(some()...), name)
		wantNoPuts(t, got, e, api.ErrName)
		got, e = ops.Gone(tableOf(), name)
		wantNoPuts(t, got, e, api.ErrName)
	}
}

// P13.2: Make, then Gone: the table as it was.
func TestMakeAndGone(t *testing.T) {
	for _, l := range [][]api.Volume{nil, some()[:1], some(), full()[:2]} {
		for n := 1; n <= 4; n++ {
			ahead := tableOf(l...)
			made, e := ops.Make(ahead, "new", n)
			if e != api.OK || len(made) != n+1 {
				t.Fatalf("%v, error %d", made, e)
			}
			got, e := ops.Gone(made[n].Data, "new")
			wantPuts(t, got, e, api.Put{At: 0, Data: ahead})
		}
	}
}

// P13.1, P13.2: a block that is no table's is one of no volumes.
func TestNobodysBlock(t *testing.T) {
	for _, b := range nobodys() {
		for _, name := range []string{"a", "data"} {
			got, e := ops.Gone(b, name)
			wantNoPuts(t, got, e, api.ErrName)
			for n := 1; n <= 4; n++ {
				blocks := []int{1, 2, 3, 4}[:n]
				got, e = ops.Make(b, name, n)
				wantPuts(t, got, e, append(zerosTo(blocks...), api.Put{At: 0, Data: tableOf(volume(name, blocks...))})...)
			}
			got, e = ops.Make(b, name, 0)
			wantNoPuts(t, got, e, api.ErrRange)
		}
		got, e := ops.Make(b, "A", 1)
		wantNoPuts(t, got, e, api.ErrForm)
	}
}

// tenant is a pool as puts go to it, and what each volume's blocks should be.
type tenant struct {
	pool  [12]api.Block
	names []string
	data  map[string][]api.Block
}

// do carries out what a call told.
func (x *tenant) do(puts []api.Put) {
	for _, p := range puts {
		x.pool[p.At] = p.Data
	}
}

// blocks is how many blocks the volumes have.
func (x *tenant) blocks() int {
	all := 0
	for _, d := range x.data {
		all += len(d)
	}
	return all
}

// wantMake asks for a volume, and holds what is told against what there is.
func (x *tenant) wantMake(t *testing.T, name string, n int) {
	puts, e := ops.Make(x.pool[0], name, n)
	want := api.OK
	switch {
	case x.data[name] != nil:
		want = api.ErrName
	case n == 0 || n == 5:
		want = api.ErrRange
	case len(x.names) == 3 || x.blocks()+n > 11:
		want = api.ErrQuota
	}
	if e != want || e != api.OK && len(puts) != 0 {
		t.Errorf("make %s %d: %v, error %d, want error %d", name, n, puts, e, want)
	}
	if want == api.OK {
		x.do(puts)
		x.names = append(x.names, name)
		x.data[name] = make([]api.Block, n)
	}
}

// wantGone asks for a volume's end.
func (x *tenant) wantGone(t *testing.T, name string) {
	puts, e := ops.Gone(x.pool[0], name)
	if (e == api.OK) != (x.data[name] != nil) {
		t.Errorf("gone %s: error %d", name, e)
	}
	x.do(puts)
	x.names = slices.DeleteFunc(x.names, func(s string) bool { return s == name })
	delete(x.data, name)
}

// wantWrite writes a block.
func (x *tenant) wantWrite(t *testing.T, name string, at int, data api.Block) {
	puts, e := ops.Write(x.pool[0], name, at, data)
	if (e == api.OK) != (at >= 0 && at < len(x.data[name])) {
		t.Errorf("write %s %d: error %d", name, at, e)
	}
	x.do(puts)
	if e == api.OK {
		x.data[name][at] = data
	}
}

// wantAll holds what each volume's blocks are against what they should be.
func (x *tenant) wantAll(t *testing.T) {
	l := ops.Volumes(x.pool[0])
	if len(l) != len(x.names) {
		t.Fatalf("%v, want %v", l, x.names)
	}
	for i, name := range x.names {
		if l[i].Name != name || len(l[i].Blocks) != len(x.data[name]) {
			t.Errorf("%v, want %s of %d", l[i], name, len(x.data[name]))
		}
		for at, want := range x.data[name] {
			block, e := ops.Place(x.pool[0], name, at)
			if e != api.OK || x.pool[block] != want {
				t.Errorf("%s at %d: block %d, error %d", name, at, block, e)
			}
		}
	}
}

// P13.1, P13.2, P13.3: volumes made, written, gone, by lot, over blocks that others have written: each is read as it should be, and a new one's blocks are zeros.
func TestByLot(t *testing.T) {
	lot := rand.New(rand.NewSource(13))
	x := tenant{data: map[string][]api.Block{}}
	for b := 1; b < 12; b++ {
		x.pool[b] = api.Block(slices.Repeat([]byte{0xee}, 32))
	}
	seen := map[int]int{}
	for n := range 30000 {
		name := string(rune('a' + lot.Intn(5)))
		switch lot.Intn(6) {
		case 0:
			x.wantMake(t, name, lot.Intn(6))
		case 1:
			x.wantGone(t, name)
		default:
			x.wantWrite(t, name, lot.Intn(6)-1, api.Block{byte(n), byte(n >> 8), 31: 1})
		}
		x.wantAll(t)
		seen[len(x.names)]++
	}
	if seen[0] < 100 || seen[3] < 100 {
		t.Error(seen)
	}
}

// P13.3: behind Make each block of the new volume is zeros, and no other block but the table is another one than it was.
func TestMadeIsZeros(t *testing.T) {
	for _, l := range [][]api.Volume{nil, some()[:1], some(), full()[:2]} {
		for n := 1; n <= 4; n++ {
			x := tenant{}
			for b := range x.pool {
				x.pool[b] = api.Block(slices.Repeat([]byte{byte(0xa0 + b)}, 32))
			}
			x.pool[0] = tableOf(l...)
			ahead := x.pool
			puts, _ := ops.Make(x.pool[0], "new", n)
			x.do(puts)
			blocks := ops.Volumes(x.pool[0])[len(l)].Blocks
			for b := 1; b < 12; b++ {
				want := ahead[b]
				if slices.Contains(blocks, b) {
					want = api.Block{}
				}
				if x.pool[b] != want {
					t.Errorf("%v, %d: block %d: %x", l, n, b, x.pool[b])
				}
			}
		}
	}
}

// Rule 2: what is told is new memory, and no two lists of it share any, their spare room neither.
func TestToldIsNew(t *testing.T) {
	b := tableOf(some()...)
	for _, tell := range []func() []api.Put{
		func() []api.Put { l, _ := ops.Make(b, "new", 3); return l },
		func() []api.Put { l, _ := ops.Gone(b, "data"); return l },
		func() []api.Put { l, _ := ops.Write(b, "data", 1, api.Block{9}); return l },
	} {
		first, second := tell(), tell()
		want := slices.Clone(second)
		first = first[:cap(first)]
		for i := range first {
			first[i] = api.Put{At: 99}
		}
		if !slices.Equal(second, want) || !slices.Equal(tell(), want) {
			t.Errorf("%v, want %v", second, want)
		}
	}
	first, second := ops.Volumes(b), ops.Volumes(b)
	for i := range first {
		all := first[i].Blocks[:cap(first[i].Blocks)]
		for k := range all {
			all[k] = 99
		}
	}
	if !alike(second, some()) || !alike(ops.Volumes(b), some()) {
		t.Errorf("%v", second)
	}
}
