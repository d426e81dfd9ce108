package wal

import (
	"encoding/hex"
	"fmt"
	"math"
	"math/rand"
	"slices"
	"testing"

	"tollhouse/api"
	"tollhouse/crc"
	"tollhouse/disk"
)

// made counts the images that were made, so that no two are alike.
var made uint32

// anImage is an image that is unlike all others.
func anImage() api.Block {
	made++
	b := api.Block(slices.Repeat([]byte{0xa5}, api.Size))
	copy(b[:], digits(made))
	copy(b[api.Size-4:], digits(^made))
	return b
}

// puts are such of those blocks, no two of the same Data.
func puts(at ...int) []api.Put {
	var all []api.Put
	for _, a := range at {
		all = append(all, api.Put{At: a, Data: anImage()})
	}
	return all
}

// record is one of that number, of writes of those blocks.
func record(epoch, seq uint32, at ...int) Record {
	return Record{Epoch: epoch, Seq: seq, Puts: puts(at...)}
}

// digits are n's four bytes, the lowest first, told by division.
func digits(n uint32) []byte {
	var b []byte
	for range 4 {
		b = append(b, byte(n%256))
		n /= 256
	}
	return b
}

// sealed is a sector of that mark and those bytes with a right check, whatever they are.
func sealed(mark byte, body ...byte) api.Block {
	var b api.Block
	b[0] = mark
	copy(b[1:30], body)
	check := crc.Check(b[:30])
	b[30], b[31] = byte(check%256), byte(check/256)
	return b
}

// headerBytes are a header's body, as the chapter's words have it, of any count and any bytes behind it.
func headerBytes(epoch, seq uint32, count byte, behind ...byte) []byte {
	return slices.Concat(digits(epoch), digits(seq), []byte{count}, behind)
}

// headerOf is the record's header, as the chapter's words have it.
func headerOf(r Record) api.Block {
	var at []byte
	for _, p := range r.Puts {
		at = append(at, byte(p.At))
	}
	return sealed(0x57, headerBytes(r.Epoch, r.Seq, byte(len(at)), at...)...)
}

// newDisk is a disk of those sectors, all of them flushed.
func newDisk(t *testing.T, sectors ...api.Block) *disk.Disk {
	t.Helper()
	d, e := disk.New(len(sectors))
	if e != api.OK {
		t.Fatal("no disk:", e)
	}
	for i, b := range sectors {
		d.Write(i, b)
	}
	d.Flush()
	return d
}

// filled are n sectors, no two alike, none of them a header.
func filled(n int) []api.Block {
	var all []api.Block
	for range n {
		all = append(all, anImage())
	}
	return all
}

// sectors are all that d has.
func sectors(t *testing.T, d *disk.Disk) []api.Block {
	t.Helper()
	var all []api.Block
	for i := range d.Len() {
		b, e := d.Read(i)
		if e != api.OK {
			t.Fatalf("sector %d: error %d", i, e)
		}
		all = append(all, b)
	}
	return all
}

// alike tells whether a and b are the same record.
func alike(a, b Record) bool {
	return a.Epoch == b.Epoch && a.Seq == b.Seq && slices.Equal(a.Puts, b.Puts)
}

// bare is r without its images.
func bare(r Record) Record {
	r.Puts = slices.Clone(r.Puts)
	for k := range r.Puts {
		r.Puts[k].Data = api.Block{}
	}
	return r
}

// isZero tells whether r is the record that stands beside an error.
func isZero(r Record) bool {
	return r.Epoch == 0 && r.Seq == 0 && r.Puts == nil
}

// wantGet holds the log of d from that sector against being that record.
func wantGet(t *testing.T, d *disk.Disk, from int, want Record) {
	t.Helper()
	if r, e := Get(d, from); e != api.OK || !alike(r, want) {
		t.Errorf("from %d: %v, error %d, want %v", from, r, e, want)
	}
}

// wantNoRecord holds Get against telling that error and nothing else.
func wantNoRecord(t *testing.T, d *disk.Disk, from int, want api.Errno, what string) {
	t.Helper()
	if r, e := Get(d, from); e != want || !isZero(r) {
		t.Errorf("%s: from %d: %v, error %d, want error %d", what, from, r, e, want)
	}
}

// wantPut puts r, and holds it against going through.
func wantPut(t *testing.T, d *disk.Disk, from int, r Record) {
	t.Helper()
	if e := Put(d, from, r); e != api.OK {
		t.Errorf("from %d: %v: error %d", from, r, e)
	}
}

// step is a write of a disk, or a flush.
type step struct {
	flush bool
	at    int
	data  api.Block
}

// steps are what the chapter's words say that Put does.
func steps(from int, r Record) []step {
	var all []step
	for k, p := range r.Puts {
		all = append(all, step{at: from + k + 1, data: p.Data})
	}
	return append(all, step{flush: true}, step{at: from, data: headerOf(r)}, step{flush: true})
}

// behind is what stands on a disk behind the first n of the steps, and how many of them are loose.
func behind(ahead []api.Block, all []step, n int, keep []byte) ([]api.Block, int) {
	now := slices.Clone(ahead)
	var loose []step
	for _, s := range all[:n] {
		if !s.flush {
			loose = append(loose, s)
			continue
		}
		for _, w := range loose {
			now[w.at] = w.data
		}
		loose = nil
	}
	for k, w := range loose {
		if k < len(keep) && keep[k]%2 == 1 {
			now[w.at] = w.data
		}
	}
	return now, len(loose)
}

// keeps are all choices of which of n loose writes survive, one beyond them among them.
func keeps(n int) [][]byte {
	var all [][]byte
	for bits := range 1 << (n + 1) {
		keep := make([]byte, n+1)
		for k := range keep {
			keep[k] = byte(bits >> k & 1)
		}
		all = append(all, keep)
	}
	return append(all, nil, []byte{255, 254, 3}, slices.Repeat([]byte{2}, n), slices.Repeat([]byte{0xff}, n+9))
}

// records are such of one to five puts, at the edges and in many orders.
func records() []Record {
	return []Record{
		record(1, 1, 0),
		record(0, 0, 11),
		record(1, 0, 11, 0),
		record(0, 1, 0, 11),
		record(2, 9, 5, 6, 7),
		record(math.MaxUint32, math.MaxUint32, 11, 10, 9, 8),
		record(0x04030201, 0x08070605, 4, 3, 2, 1, 0),
		record(256, 1<<24, 7, 8, 9, 10, 11),
		{Epoch: 7, Seq: 8, Puts: make([]api.Put, 1)},
		{Epoch: 7, Seq: 8, Puts: []api.Put{{At: 3}, {At: 2, Data: api.Block(slices.Repeat([]byte{0xff}, api.Size))}}},
	}
}

// P8.1: one to five puts, each of a block, no two of the same.
func TestGood(t *testing.T) {
	for _, x := range []struct {
		at   []int
		want bool
	}{
		{nil, false},
		{[]int{}, false},
		{[]int{0}, true},
		{[]int{11}, true},
		{[]int{-1}, false},
		{[]int{12}, false},
		{[]int{0, 11}, true},
		{[]int{11, 0}, true},
		{[]int{0, 1, 2, 3, 4}, true},
		{[]int{11, 10, 9, 8, 7}, true},
		{[]int{0, 11, 1, 10, 5}, true},
		{[]int{0, 1, 2, 3, 4, 5}, false},
		{[]int{0, 1, 2, 3, 4, 5, 6, 7, 8, 9, 10, 11}, false},
		{[]int{0, 1, 2, 3, 4, 4}, false},
		{[]int{3, 3}, false},
		{[]int{0, 0}, false},
		{[]int{11, 11}, false},
		{[]int{3, 3, 4}, false},
		{[]int{4, 3, 3}, false},
		{[]int{3, 4, 3}, false},
		{[]int{0, 1, 2, 3, 0}, false},
		{[]int{11, 1, 2, 3, 11}, false},
		{[]int{1, 0, 2, 0, 3}, false},
		{[]int{5, 5, 5, 5, 5}, false},
		{[]int{0, 1, 2, 3, 12}, false},
		{[]int{0, 1, 2, 3, -1}, false},
		{[]int{-1, 0, 1, 2, 3}, false},
		{[]int{0, 12, 1}, false},
		{[]int{-1, -1}, false},
		{[]int{12, 12}, false},
		{[]int{math.MinInt}, false},
		{[]int{math.MaxInt}, false},
		{[]int{1, 256}, false},
		{[]int{1 << 32, 0}, false},
		{[]int{-256}, false},
		{[]int{1, 1 - 256}, false},
	} {
		if got := Good(puts(x.at...)...); got != x.want {
			t.Errorf("%v: %v", x.at, got)
		}
	}
	if Good() {
		t.Error("no puts")
	}
	if Good(slices.Repeat(puts(1, 2, 3), 100000)...) {
		t.Error("many puts")
	}
}

// P8.1: each single At, and each two of them.
func TestGoodEach(t *testing.T) {
	isBlock := func(at int) bool { return slices.Contains([]int{0, 1, 2, 3, 4, 5, 6, 7, 8, 9, 10, 11}, at) }
	for at := -300; at < 300; at++ {
		if got := Good(api.Put{At: at}); got != isBlock(at) {
			t.Errorf("%d: %v", at, got)
		}
	}
	for a := -2; a < 15; a++ {
		for b := -2; b < 15; b++ {
			if got := Good(puts(a, b)...); got != (isBlock(a) && isBlock(b) && a != b) {
				t.Errorf("%d, %d: %v", a, b, got)
			}
		}
	}
}

// P8.1: puts by lot, held against what the words say, told by counting.
func TestGoodByLot(t *testing.T) {
	lot := rand.New(rand.NewSource(8))
	seen := map[bool]int{}
	for range 20000 {
		var all []api.Put
		times := map[int]int{}
		want := true
		for range lot.Intn(8) {
			at := lot.Intn(14) - 1
			if lot.Intn(5) > 0 {
				at = (at + 13) % 12
			}
			times[at]++
			want = want && at > -1 && at < 12 && times[at] == 1
			all = append(all, api.Put{At: at})
		}
		want = want && len(all) > 0 && len(all) < 6
		seen[want]++
		if got := Good(all...); got != want {
			t.Errorf("%v: %v", all, got)
		}
	}
	if seen[true] < 1000 || seen[false] < 1000 {
		t.Error(seen)
	}
}

// Rule 2: Good changes neither the puts nor what lies in their spare room, and looks at none of that.
func TestGoodChangesNothing(t *testing.T) {
	room := puts(0, 1, 2, 3, 4, 4, 12, -1, 5)
	ahead := slices.Clone(room)
	for first := range room {
		for last := first; last <= len(room); last++ {
			got := Good(room[first:last]...)
			if !slices.Equal(room, ahead) {
				t.Fatalf("%d to %d: %v", first, last, room)
			}
			if want := Good(slices.Clip(slices.Clone(ahead[first:last]))...); got != want {
				t.Errorf("%d to %d: %v", first, last, got)
			}
		}
	}
}

// P8.2: known headers, whose checks come from elsewhere (Python's crc_hqx of the bits in reverse), both ways.
func TestKnown(t *testing.T) {
	for _, x := range []struct {
		r Record
		s string
	}{
		{record(1, 1, 0), "5701000000010000000100000000000000000000000000000000000000000e16"},
		{record(0x04030201, 0x08070605, 9, 10, 11), "57010203040506070803090a0b0000000000000000000000000000000000bc4d"},
		{record(math.MaxUint32, math.MaxUint32, 11, 10, 9, 8, 7), "57ffffffffffffffff050b0a0908070000000000000000000000000000001e71"},
		{record(0, 0, 0, 11), "57000000000000000002000b00000000000000000000000000000000000036b5"},
		{record(3, 256, 4, 3, 2, 1, 0), "570300000000010000050403020100000000000000000000000000000000835f"},
	} {
		b := block(t, x.s)
		d := newDisk(t, make([]api.Block, 6)...)
		wantPut(t, d, 0, x.r)
		if got, _ := d.Read(0); got != b {
			t.Errorf("%v: %x, want %x", x.r, got, b)
		}
		all := []api.Block{b}
		for _, p := range x.r.Puts {
			all = append(all, p.Data)
		}
		wantGet(t, newDisk(t, append(all, filled(6-len(all))...)...), 0, x.r)
	}
}

// P8.2: known sectors with a right check that are no headers.
func TestKnownNone(t *testing.T) {
	for what, s := range map[string]string{
		"six puts":                         "5701000000010000000600010203040500000000000000000000000000007c80",
		"no puts":                          "5701000000010000000000000000000000000000000000000000000000006221",
		"an At of 12":                      "570100000001000000010c00000000000000000000000000000000000000b3b9",
		"two alike":                        "5701000000010000000303000300000000000000000000000000000000000510",
		"another byte than zero behind":    "570100000001000000020300010000000000000000000000000000000000b6de",
		"a label's mark":                   "4c01000000010000000100000000000000000000000000000000000000008067",
		"mark 57 of ten, not of sixteen":   "390100000001000000010000000000000000000000000000000000000000c199",
		"a label":                          "4c0100000000000000010000000000000000000000000000000000000000fb63",
		"a wrong check, one bit":           "5701000000010000000100000000000000000000000000000000000000000e17",
		"a wrong check, its bytes changed": "570100000001000000010000000000000000000000000000000000000000160e",
	} {
		wantNoRecord(t, newDisk(t, append([]api.Block{block(t, s)}, filled(5)...)...), 0, api.ErrForm, what)
	}
}

// block is the sector of those digits.
func block(t *testing.T, s string) api.Block {
	t.Helper()
	b, err := hex.DecodeString(s)
	if err != nil || len(b) != api.Size {
		t.Fatal(s, err)
	}
	return api.Block(b)
}

// P8.2: Get of what Put wrote is the record, wherever the log begins, and behind an Up that keeps nothing as well.
func TestGetOfPut(t *testing.T) {
	for _, from := range []int{0, 1, 2, 13} {
		for _, r := range records() {
			d := newDisk(t, filled(19)...)
			wantPut(t, d, from, r)
			wantGet(t, d, from, r)
			wantGet(t, d, from, r)
			if d.Loose() != 0 {
				t.Errorf("from %d: %v: %d loose", from, r, d.Loose())
			}
			d.Up()
			wantGet(t, d, from, r)
		}
	}
}

// P8.2: sector by sector: the header's bytes at their places, each image, and all others as they were.
func TestPutSectors(t *testing.T) {
	for _, from := range []int{0, 1, 7, 13} {
		for _, r := range records() {
			ahead := filled(19)
			d := newDisk(t, ahead...)
			wantPut(t, d, from, r)
			d.Up()
			now := sectors(t, d)
			b := now[from]
			if b[0] != 0x57 || !slices.Equal(b[1:5], digits(r.Epoch)) || !slices.Equal(b[5:9], digits(r.Seq)) || int(b[9]) != len(r.Puts) {
				t.Errorf("%v: %x", r, b)
			}
			for k := range 20 {
				want := byte(0)
				if k < len(r.Puts) {
					want = byte(r.Puts[k].At)
				}
				if b[10+k] != want {
					t.Errorf("%v: At %d: %x", r, k, b)
				}
			}
			if check := crc.Check(b[:30]); b[30] != byte(check) || b[31] != byte(check>>8) {
				t.Errorf("%v: the check %04x: %x", r, check, b)
			}
			for i := range now {
				want := ahead[i]
				if k := i - from - 1; i == from {
					want = headerOf(r)
				} else if k >= 0 && k < len(r.Puts) {
					want = r.Puts[k].Data
				}
				if now[i] != want {
					t.Errorf("from %d: %v: sector %d: %x, want %x", from, r, i, now[i], want)
				}
			}
		}
	}
}

// P8.2: the writes and flushes, each cut off by a fuse, and what each choice of survivors leaves.
func TestPutOrder(t *testing.T) {
	for _, from := range []int{0, 1, 13} {
		for _, r := range records() {
			all := steps(from, r)
			for n := range len(all) + 3 {
				want := api.OK
				if n < len(all) {
					want = api.ErrDown
				}
				done := min(n, len(all))
				ahead := filled(19)
				_, loose := behind(ahead, all, done, nil)
				for _, keep := range keeps(loose) {
					d := newDisk(t, ahead...)
					d.Fuse(n)
					if e := Put(d, from, r); e != want || d.Down() != (want != api.OK) || d.Loose() != loose {
						t.Fatalf("from %d: %v: fuse %d: error %d, %d loose, want %d", from, r, n, e, d.Loose(), loose)
					}
					d.Up(keep...)
					if left, _ := behind(ahead, all, done, keep); !slices.Equal(sectors(t, d), left) {
						t.Fatalf("from %d: %v: fuse %d: %v kept: %x, want %x", from, r, n, keep, sectors(t, d), left)
					}
				}
			}
		}
	}
}

// P8.2: without the sectors, or with puts that are not Good, nothing is asked of the disk: nothing is written, and no fuse is used up.
func TestPutArg(t *testing.T) {
	good := record(1, 2, 3, 4)
	for _, x := range []struct {
		size, from int
		r          Record
	}{
		{6, 1, good}, {6, -1, good}, {5, 0, good}, {1, 0, good}, {3, 0, record(1, 2, 3)},
		{19, 14, good}, {19, 18, good}, {19, 19, good}, {19, 20, good}, {19, -1, good}, {19, -6, good}, {19, -19, good},
		{19, math.MaxInt, good}, {19, math.MaxInt - 4, good}, {19, math.MaxInt - 5, good}, {19, math.MinInt, good}, {19, math.MinInt + 5, good},
		{1024, 1019, good}, {1024, 1 << 32, good}, {1024, 1024, good},
		{19, 1, Record{}}, {19, 1, Record{Epoch: 1, Seq: 2, Puts: []api.Put{}}},
		{19, 1, record(1, 2, 0, 1, 2, 3, 4, 5)}, {19, 1, record(1, 2, -1)}, {19, 1, record(1, 2, 12)}, {19, 1, record(1, 2, 256)},
		{19, 1, record(1, 2, 3, 3)}, {19, 1, record(1, 2, 3, 0, 3)}, {19, 1, record(1, 2, 3, 4, 12)}, {19, 1, record(1, 2, math.MinInt, 4)},
		{5, 1, record(1, 2, 12)},
	} {
		ahead := filled(x.size)
		d := newDisk(t, ahead...)
		d.Write(0, api.Block{1})
		d.Fuse(1)
		if e := Put(d, x.from, x.r); e != api.ErrArg || d.Down() || d.Loose() != 1 {
			t.Errorf("%d sectors from %d: %v: error %d, %d loose", x.size, x.from, x.r, e, d.Loose())
		}
		if e := d.Flush(); e != api.OK {
			t.Errorf("%d sectors from %d: %v: the fuse is used up", x.size, x.from, x.r)
		}
		ahead[0] = api.Block{1}
		if !slices.Equal(sectors(t, d), ahead) {
			t.Errorf("%d sectors from %d: %v: written", x.size, x.from, x.r)
		}
	}
	if e := Put(nil, 0, good); e != api.ErrArg {
		t.Errorf("no disk: error %d", e)
	}
	if e := Put(&disk.Disk{}, 0, good); e != api.ErrArg {
		t.Errorf("a disk of no sectors: error %d", e)
	}
}

// P8.2: Get without the sectors.
func TestGetArg(t *testing.T) {
	for _, x := range []struct{ size, from int }{
		{6, 1}, {6, -1}, {5, 0}, {1, 0}, {2, 0}, {19, 14}, {19, 18}, {19, 19}, {19, -1}, {19, -6},
		{19, math.MaxInt}, {19, math.MaxInt - 4}, {19, math.MaxInt - 5}, {19, math.MinInt}, {1024, 1019}, {1024, 1 << 32},
	} {
		// Headers all over: where Get looks in spite of all, it finds one.
		d := newDisk(t, slices.Repeat([]api.Block{headerOf(record(1, 2, 3))}, x.size)...)
		wantNoRecord(t, d, x.from, api.ErrArg, fmt.Sprint(x.size, " sectors"))
		d.Fuse(0)
		d.Flush()
		wantNoRecord(t, d, x.from, api.ErrArg, fmt.Sprint(x.size, " sectors, down"))
	}
	wantNoRecord(t, nil, 0, api.ErrArg, "no disk")
	wantNoRecord(t, nil, -1, api.ErrArg, "no disk")
	wantNoRecord(t, &disk.Disk{}, 0, api.ErrArg, "a disk of no sectors")
}

// P8.2: just enough sectors behind from will do, on the smallest disk and the greatest.
func TestJustEnough(t *testing.T) {
	for _, x := range []struct{ size, from int }{{6, 0}, {7, 1}, {7, 0}, {19, 13}, {1024, 1018}, {1024, 0}} {
		for _, r := range records() {
			d := newDisk(t, make([]api.Block, x.size)...)
			wantNoRecord(t, d, x.from, api.ErrForm, "a new disk")
			wantPut(t, d, x.from, r)
			wantGet(t, d, x.from, r)
		}
	}
}

// P8.2: a disk that is down: its error, whatever stands there; ahead of it ErrArg, behind it ErrForm.
func TestDown(t *testing.T) {
	r := record(1, 2, 3, 4)
	for _, hasRecord := range []bool{true, false} {
		d := newDisk(t, make([]api.Block, 19)...)
		if hasRecord {
			wantPut(t, d, 1, r)
		}
		d.Fuse(0)
		if e := Put(d, 1, record(2, 2, 5)); e != api.ErrDown {
			t.Errorf("error %d", e)
		}
		wantNoRecord(t, d, 1, api.ErrDown, "down")
		wantNoRecord(t, d, 14, api.ErrArg, "down")
		if e := Put(d, 14, r); e != api.ErrArg {
			t.Errorf("too few sectors, down: error %d", e)
		}
		if e := Put(d, 1, Record{}); e != api.ErrArg {
			t.Errorf("no puts, down: error %d", e)
		}
		if e := Put(d, 1, r); e != api.ErrDown || d.Loose() != 0 {
			t.Errorf("error %d, %d loose", e, d.Loose())
		}
		d.Up(1, 1, 1)
		if hasRecord {
			wantGet(t, d, 1, r)
		} else {
			wantNoRecord(t, d, 1, api.ErrForm, "up again")
		}
	}
}

// P8.2: of all marks one makes a header, be the check right.
func TestGetEachMark(t *testing.T) {
	r := Record{Epoch: 1, Seq: 2, Puts: make([]api.Put, 1)}
	for mark := range 256 {
		d := newDisk(t, append([]api.Block{sealed(byte(mark), headerBytes(1, 2, 1, 0)...)}, make([]api.Block, 5)...)...)
		if mark == 0x57 {
			wantGet(t, d, 0, r)
		} else {
			wantNoRecord(t, d, 0, api.ErrForm, "another mark")
		}
	}
}

// P8.2: of all counts five make a header, where the blocks behind it are right; all others are none, were they blocks.
func TestGetEachCount(t *testing.T) {
	at := []byte{11, 3, 5, 0, 7, 1, 2, 4, 6, 8, 9, 10}
	for count := range 256 {
		var behind []byte
		for k := range min(count, 20) {
			behind = append(behind, at[k%len(at)])
		}
		images := filled(5)
		d := newDisk(t, append([]api.Block{sealed(0x57, headerBytes(1, 2, byte(count), behind...)...)}, images...)...)
		if count < 1 || count > 5 {
			wantNoRecord(t, d, 0, api.ErrForm, "another count")
			continue
		}
		want := Record{Epoch: 1, Seq: 2}
		for k := range count {
			want.Puts = append(want.Puts, api.Put{At: int(at[k]), Data: images[k]})
		}
		wantGet(t, d, 0, want)
	}
}

// P8.2: of all bytes at an At's place twelve are blocks, but for those that stand there already.
func TestGetEachAt(t *testing.T) {
	for count := 1; count <= 5; count++ {
		for k := range count {
			for x := range 256 {
				at := []byte{3, 11, 0, 7, 5}[:count]
				is := x < 12 && (!slices.Contains(at, byte(x)) || at[k] == byte(x))
				at[k] = byte(x)
				d := newDisk(t, append([]api.Block{sealed(0x57, headerBytes(1, 2, byte(count), at...)...)}, make([]api.Block, 5)...)...)
				if !is {
					wantNoRecord(t, d, 0, api.ErrForm, fmt.Sprint("At ", at))
					continue
				}
				want := Record{Epoch: 1, Seq: 2}
				for _, a := range at {
					want.Puts = append(want.Puts, api.Put{At: int(a)})
				}
				wantGet(t, d, 0, want)
			}
		}
	}
}

// P8.2: other bytes than zeros behind the last At make no header, be the check right.
func TestGetBehindAts(t *testing.T) {
	for count := 1; count <= 5; count++ {
		for i := count; i < 20; i++ {
			for x := 1; x < 256; x++ {
				behind := make([]byte, 20)
				copy(behind, []byte{3, 11, 0, 7, 5}[:count])
				behind[i] = byte(x)
				d := newDisk(t, append([]api.Block{sealed(0x57, headerBytes(1, 2, byte(count), behind...)...)}, make([]api.Block, 5)...)...)
				wantNoRecord(t, d, 0, api.ErrForm, fmt.Sprint("behind ", count, ": ", behind))
			}
		}
	}
}

// P8.2: a header with any one byte turned is none.
func TestGetOneTurned(t *testing.T) {
	for _, r := range []Record{record(1, 1, 0), record(0x04030201, 0x08070605, 4, 3, 2, 1, 0)} {
		d := newDisk(t, make([]api.Block, 19)...)
		wantPut(t, d, 2, r)
		right, _ := d.Read(2)
		for i := range right {
			for x := 1; x < 256; x++ {
				turned := right
				turned[i] ^= byte(x)
				d.Write(2, turned)
				d.Flush()
				wantNoRecord(t, d, 2, api.ErrForm, "one byte turned")
			}
		}
		d.Write(2, right)
		wantGet(t, d, 2, r)
	}
}

// P8.2: sectors by lot with right checks: just those are headers that the words make of what they tell.
func TestGetByLot(t *testing.T) {
	lot := rand.New(rand.NewSource(3))
	found := 0
	for range 20000 {
		count := lot.Intn(7)
		behind := make([]byte, 20)
		for k := range min(count+lot.Intn(10)/9, 20) {
			behind[k] = byte(lot.Intn(13))
		}
		epoch, seq := lot.Uint32(), lot.Uint32()
		all := append([]api.Block{sealed(byte(0x57+lot.Intn(9)/8), headerBytes(epoch, seq, byte(count), behind...)...)}, filled(5)...)
		want := Record{Epoch: epoch, Seq: seq}
		for k := range min(count, 5) {
			want.Puts = append(want.Puts, api.Put{At: int(behind[k]), Data: all[k+1]})
		}
		is := count > 0 && all[0] == headerOf(want)
		for k, p := range want.Puts {
			is = is && p.At < 12 && !slices.ContainsFunc(want.Puts[:k], func(q api.Put) bool { return q.At == p.At })
		}
		if d := newDisk(t, all...); is {
			found++
			wantGet(t, d, 0, want)
		} else {
			wantNoRecord(t, d, 0, api.ErrForm, "by lot")
		}
	}
	if found < 1000 {
		t.Error("found:", found)
	}
}

// P8.2: images are what the disk reads, loose writes included, whatever their bytes; those beyond the puts do not matter.
func TestGetImages(t *testing.T) {
	r := record(1, 2, 3, 4)
	d := newDisk(t, filled(19)...)
	wantPut(t, d, 1, r)
	r.Puts[1].Data = headerOf(record(9, 9, 9))
	d.Write(3, r.Puts[1].Data)
	d.Write(4, api.Block{1})
	d.Write(0, api.Block{1})
	d.Write(7, api.Block{1})
	wantGet(t, d, 1, r)
	if d.Loose() != 4 {
		t.Error("Get flushes")
	}
	// Get takes nothing from a fuse.
	d.Fuse(0)
	wantGet(t, d, 1, r)
	if d.Down() {
		t.Error("down")
	}
}

// P8.2: a record over another one, shorter and longer, is told alone.
func TestPutOver(t *testing.T) {
	for _, a := range records() {
		for _, b := range records() {
			d := newDisk(t, filled(8)...)
			wantPut(t, d, 2, a)
			wantPut(t, d, 2, b)
			wantGet(t, d, 2, b)
		}
	}
}

// P8.2: two logs of one disk, side by side, do not touch each other.
func TestTwoLogs(t *testing.T) {
	for _, a := range records() {
		for _, b := range records() {
			d := newDisk(t, filled(12)...)
			wantPut(t, d, 0, a)
			wantPut(t, d, 6, b)
			wantGet(t, d, 0, a)
			wantGet(t, d, 6, b)
			wantPut(t, d, 0, b)
			wantGet(t, d, 6, b)
		}
	}
}

// P8.2: the chapter's example.
func TestNewDisk(t *testing.T) {
	for _, n := range []int{6, 19, 1024} {
		wantNoRecord(t, newDisk(t, make([]api.Block, n)...), 0, api.ErrForm, "a new disk")
	}
}

// P8.3: a Put over an older record, or over none, cut at each write and flush, behind each choice of survivors: the older one but for its images, or all of the new one.
func TestCut(t *testing.T) {
	older := append(records(), Record{})
	for _, newer := range records() {
		for _, old := range older {
			ahead := filled(8)
			d := newDisk(t, ahead...)
			if old.Puts != nil {
				wantPut(t, d, 1, old)
			}
			ahead = sectors(t, d)
			all := steps(1, newer)
			for n := range len(all) + 1 {
				_, loose := behind(ahead, all, n, nil)
				for _, keep := range keeps(loose) {
					d := newDisk(t, ahead...)
					was, wasError := Get(d, 1)
					d.Fuse(n)
					Put(d, 1, newer)
					d.Up(keep...)
					now, e := Get(d, 1)
					isOld := e == wasError && alike(bare(now), bare(was))
					isNew := e == api.OK && alike(now, newer)
					// The header is what turns the one into the other.
					wantNew := n > len(newer.Puts)+2 || n == len(newer.Puts)+2 && len(keep) > 0 && keep[0]%2 == 1
					if !isOld && !isNew || wantNew && !isNew || !wantNew && !isOld {
						t.Fatalf("%v over %v: fuse %d, %v kept: %v, error %d", newer, old, n, keep, now, e)
					}
				}
			}
		}
	}
}

// P8.3: records by lot, one over the other, each cut somewhere, and the disk up again.
func TestCutByLot(t *testing.T) {
	lot := rand.New(rand.NewSource(5))
	for range 300 {
		from := lot.Intn(14)
		d := newDisk(t, filled(19)...)
		for range 30 {
			r := record(lot.Uint32(), lot.Uint32(), lot.Perm(12)[:1+lot.Intn(5)]...)
			was, wasError := Get(d, from)
			n := lot.Intn(len(r.Puts) + 5)
			d.Fuse(n)
			e := Put(d, from, r)
			if (e == api.OK) != (n >= len(r.Puts)+3) {
				t.Fatalf("%v: fuse %d: error %d", r, n, e)
			}
			keep := make([]byte, lot.Intn(8))
			lot.Read(keep)
			d.Up(keep...)
			now, nowError := Get(d, from)
			isOld := nowError == wasError && alike(bare(now), bare(was))
			isNew := nowError == api.OK && alike(now, r)
			if !isNew && (e == api.OK || !isOld) {
				t.Fatalf("%v over %v: fuse %d, %v kept: %v, error %d", r, was, n, keep, now, nowError)
			}
		}
	}
}

// P8.2: what was loose ahead of a Put is flushed with it, in its order.
func TestLooseAhead(t *testing.T) {
	r := record(1, 2, 3, 4)
	d := newDisk(t, filled(8)...)
	other := anImage()
	d.Write(0, other)
	d.Write(2, anImage())
	d.Write(1, headerOf(record(7, 7, 7)))
	wantPut(t, d, 1, r)
	d.Up()
	wantGet(t, d, 1, r)
	if b, _ := d.Read(0); b != other {
		t.Errorf("%x", b)
	}
}

// Rule 2: Put changes nothing of the record, its spare room included, and keeps none of it.
func TestPutChangesNothing(t *testing.T) {
	room := puts(9, 3, 4, 5, 6, 7, 8)
	ahead := slices.Clone(room)
	for n := range 6 {
		d := newDisk(t, filled(8)...)
		r := Record{Epoch: 1, Seq: 2, Puts: room[1 : 1+n]}
		e := Put(d, 1, r)
		if (e == api.OK) != (n > 0) || !slices.Equal(room, ahead) || len(r.Puts) != n {
			t.Errorf("%d puts: error %d, %v", n, e, room)
		}
		if n > 0 {
			clear(room)
			wantGet(t, d, 1, Record{Epoch: 1, Seq: 2, Puts: slices.Clone(ahead[1 : 1+n])})
			copy(room, ahead)
		}
	}
}

// Rule 2: what Get tells is new memory, its spare room too.
func TestGetIsNew(t *testing.T) {
	for _, r := range records() {
		d := newDisk(t, filled(8)...)
		wantPut(t, d, 1, r)
		a, _ := Get(d, 1)
		b, _ := Get(d, 1)
		whole := a.Puts[:cap(a.Puts)]
		for k := range whole {
			whole[k] = api.Put{At: -7, Data: api.Block{7}}
		}
		if !alike(b, r) {
			t.Errorf("two answers share memory: %v", b)
		}
		wantGet(t, d, 1, r)
		_ = append(b.Puts, api.Put{At: 9})
		wantGet(t, d, 1, r)
	}
}

// Rule 4: an answer hangs on the arguments alone.
func TestNothingRemembered(t *testing.T) {
	r := record(1, 2, 3, 4)
	a, b := newDisk(t, make([]api.Block, 8)...), newDisk(t, make([]api.Block, 8)...)
	for range 3 {
		wantPut(t, a, 1, r)
		wantNoRecord(t, b, 1, api.ErrForm, "another disk")
		wantGet(t, a, 1, r)
		wantNoRecord(t, a, 2, api.ErrForm, "another log")
		wantNoRecord(t, a, 3, api.ErrArg, "too few sectors")
		if !Good(r.Puts...) || Good() || Good(puts(3, 3)...) {
			t.Error("another answer than before")
		}
	}
}
