package disk

import (
	"bytes"
	"maps"
	"math"
	"math/rand"
	"slices"
	"testing"

	"tollhouse/api"
)

// block is a sector's bytes, others for each n modulo 256.
func block(n int) api.Block {
	var b api.Block
	for i := range b {
		b[i] = byte(n*7 + i*3 + 1)
	}
	return b
}

// made is a new disk of n sectors.
func made(t *testing.T, n int) *Disk {
	t.Helper()
	d, e := New(n)
	if e != api.OK || d == nil {
		t.Fatalf("New(%d): %v, error %d", n, d, e)
	}
	return d
}

// mustWrite writes, where that goes through.
func mustWrite(t *testing.T, d *Disk, i int, b api.Block) {
	t.Helper()
	if e := d.Write(i, b); e != api.OK {
		t.Fatalf("Write(%d): error %d", i, e)
	}
}

// mustFlush flushes, where that goes through.
func mustFlush(t *testing.T, d *Disk) {
	t.Helper()
	if e := d.Flush(); e != api.OK {
		t.Fatalf("Flush: error %d", e)
	}
}

// wantRead holds sector i against b.
func wantRead(t *testing.T, d *Disk, i int, b api.Block) {
	t.Helper()
	if got, e := d.Read(i); e != api.OK || got != b {
		t.Errorf("Read(%d): %x, error %d, want %x", i, got, e, b)
	}
}

// wantAll holds all sectors against want, those that it does not name against zeros.
func wantAll(t *testing.T, d *Disk, want map[int]api.Block) {
	t.Helper()
	for i := range d.Len() {
		wantRead(t, d, i, want[i])
	}
}

// wantLoose holds how many writes are loose, and whether the disk is down, against what they should be.
func wantLoose(t *testing.T, d *Disk, loose int, down bool) {
	t.Helper()
	if d.Loose() != loose || d.Down() != down {
		t.Errorf("loose %d, down %v, want %d, %v", d.Loose(), d.Down(), loose, down)
	}
}

// wantDown holds each call of a disk that is down against what it should answer.
func wantDown(t *testing.T, d *Disk, loose int) {
	t.Helper()
	n := d.Len()
	for range 2 {
		for _, i := range []int{0, n / 2, n - 1} {
			if b, e := d.Read(i); b != (api.Block{}) || e != api.ErrDown {
				t.Errorf("Read(%d): %x, error %d", i, b, e)
			}
			if e := d.Write(i, block(99)); e != api.ErrDown {
				t.Errorf("Write(%d): error %d", i, e)
			}
		}
		wantOutside(t, d)
		if e := d.Flush(); e != api.ErrDown {
			t.Errorf("Flush: error %d", e)
		}
		wantLoose(t, d, loose, true)
		if d.Len() != n {
			t.Errorf("Len: %d, want %d", d.Len(), n)
		}
	}
}

// wantOutside holds Read and Write of numbers that are no sector against ErrArg.
func wantOutside(t *testing.T, d *Disk) {
	t.Helper()
	for _, i := range outside(d.Len()) {
		if b, e := d.Read(i); b != (api.Block{}) || e != api.ErrArg {
			t.Errorf("of %d, Read(%d): %x, error %d", d.Len(), i, b, e)
		}
		if e := d.Write(i, block(99)); e != api.ErrArg {
			t.Errorf("of %d, Write(%d): error %d", d.Len(), i, e)
		}
	}
}

// outside are numbers that are no sector of a disk of n.
func outside(n int) []int {
	return []int{-1, n, n + 1, -n - 1, 1024, 1 << 16, 1<<16 + n - 1, math.MinInt, math.MinInt + 1, math.MaxInt}
}

// P5.1: New of each number that a disk may have.
func TestNew(t *testing.T) {
	for n := 1; n <= 1024; n++ {
		d := made(t, n)
		if d.Len() != n {
			t.Errorf("New(%d): Len %d", n, d.Len())
		}
		wantLoose(t, d, 0, false)
		wantAll(t, d, nil)
	}
}

// P5.1: New of other numbers.
func TestNewOutside(t *testing.T) {
	for _, n := range []int{0, -1, -2, -19, -1024, 1025, 1026, 2048, 1 << 16, 1<<16 + 1, math.MinInt, math.MaxInt} {
		if d, e := New(n); d != nil || e != api.ErrArg {
			t.Errorf("New(%d): %v, error %d", n, d, e)
		}
	}
}

// P5.1: two disks share nothing.
func TestNewShareNothing(t *testing.T) {
	a, b := made(t, 3), made(t, 3)
	mustWrite(t, a, 1, block(1))
	mustFlush(t, a)
	mustWrite(t, a, 2, block(2))
	a.Fuse(0)
	a.Flush()
	wantLoose(t, b, 0, false)
	wantAll(t, b, nil)
	mustWrite(t, b, 0, block(3))
	mustFlush(t, b)
	a.Up()
	wantAll(t, a, map[int]api.Block{1: block(1)})
	wantAll(t, b, map[int]api.Block{0: block(3)})
}

// P5.1: every method of a nil disk, over and over.
func TestNil(t *testing.T) {
	var d *Disk
	for range 2 {
		wantOutside(t, d)
		if e := d.Flush(); e != api.ErrArg {
			t.Errorf("Flush: error %d", e)
		}
		if d.Len() != 0 || d.Loose() != 0 || d.Down() {
			t.Errorf("Len %d, Loose %d, Down %v", d.Len(), d.Loose(), d.Down())
		}
		d.Fuse(0)
		d.Fuse(-1)
		d.Up()
		d.Up(1, 0, 1)
	}
}

// P5.1: each sector is written and read by itself; loose and flushed it reads the same.
func TestWriteEach(t *testing.T) {
	for _, n := range []int{1, 2, 19, 1024} {
		for _, i := range []int{0, n / 2, n - 1} {
			d := made(t, n)
			want := map[int]api.Block{i: block(i + 1)}
			mustWrite(t, d, i, block(i+1))
			wantLoose(t, d, 1, false)
			wantAll(t, d, want)
			mustFlush(t, d)
			wantLoose(t, d, 0, false)
			wantAll(t, d, want)
		}
	}
}

// P5.1: all sectors of the greatest disk hold their own bytes.
func TestWriteAll(t *testing.T) {
	d := made(t, 1024)
	want := map[int]api.Block{}
	for i := range 1024 {
		want[i] = api.Block{byte(i), byte(i >> 8), 31: byte(i ^ 0x55)}
		mustWrite(t, d, i, want[i])
		wantLoose(t, d, i+1, false)
	}
	wantAll(t, d, want)
	mustFlush(t, d)
	wantLoose(t, d, 0, false)
	wantAll(t, d, want)
	d.Up()
	wantAll(t, d, want)
}

// P5.1: numbers that are no sector: nothing is read, and nothing is written.
func TestOutside(t *testing.T) {
	for _, n := range []int{1, 2, 19, 1023, 1024} {
		d := made(t, n)
		mustWrite(t, d, 0, block(1))
		mustFlush(t, d)
		mustWrite(t, d, n-1, block(2))
		wantOutside(t, d)
		wantLoose(t, d, 1, false)
		want := map[int]api.Block{0: block(1)}
		want[n-1] = block(2)
		wantAll(t, d, want)
		mustFlush(t, d)
		wantAll(t, d, want)
	}
}

// P5.1: of several loose writes of a sector the last one is read; a flush does them in order.
func TestLastWrite(t *testing.T) {
	d := made(t, 4)
	mustWrite(t, d, 1, block(1))
	mustFlush(t, d)
	for k, w := range []api.Put{
		{At: 1, Data: block(2)}, {At: 2, Data: block(3)}, {At: 1, Data: block(4)}, {At: 3, Data: block(5)},
		{At: 2, Data: block(6)}, {At: 1, Data: block(2)}, {At: 2, Data: api.Block{}}, {At: 3, Data: block(5)},
	} {
		mustWrite(t, d, w.At, w.Data)
		wantLoose(t, d, k+1, false)
		wantRead(t, d, w.At, w.Data)
	}
	want := map[int]api.Block{1: block(2), 3: block(5)}
	wantAll(t, d, want)
	mustFlush(t, d)
	wantLoose(t, d, 0, false)
	wantAll(t, d, want)
	mustFlush(t, d)
	wantAll(t, d, want)
	mustWrite(t, d, 1, block(7))
	want[1] = block(7)
	wantLoose(t, d, 1, false)
	wantAll(t, d, want)
}

// Rule 2: a disk keeps bytes of its own, and tells bytes of its own.
func TestBytesOfItsOwn(t *testing.T) {
	d := made(t, 2)
	b := block(1)
	mustWrite(t, d, 0, b)
	b[0]++
	wantRead(t, d, 0, block(1))
	mustFlush(t, d)
	wantRead(t, d, 0, block(1))
	got, _ := d.Read(0)
	got[0]++
	wantRead(t, d, 0, block(1))
}

// P5.1: just as many writes as the fuse is go through; the next one makes the disk down, and is not loose.
func TestFuseWrites(t *testing.T) {
	for _, n := range []int{0, 1, 2, 3, 7, 100} {
		d := made(t, 5)
		d.Fuse(n)
		wantLoose(t, d, 0, false)
		for k := range n {
			mustWrite(t, d, k%5, block(k))
			wantLoose(t, d, k+1, false)
			wantRead(t, d, k%5, block(k))
		}
		if e := d.Write(0, block(98)); e != api.ErrDown {
			t.Errorf("fuse %d: error %d", n, e)
		}
		wantDown(t, d, n)
	}
}

// P5.1: just as many flushes as the fuse is go through, loose writes or none; the next one does nothing.
func TestFuseFlushes(t *testing.T) {
	for _, n := range []int{0, 1, 2, 3, 7, 100} {
		d := made(t, 3)
		mustWrite(t, d, 1, block(1))
		d.Fuse(n)
		for range n {
			mustFlush(t, d)
			wantLoose(t, d, 0, false)
			wantRead(t, d, 1, block(1))
		}
		if e := d.Flush(); e != api.ErrDown {
			t.Errorf("fuse %d: error %d", n, e)
		}
		left := 0
		if n == 0 {
			left = 1
		}
		wantDown(t, d, left)
		d.Up()
		want := map[int]api.Block{}
		if n > 0 {
			want[1] = block(1)
		}
		wantAll(t, d, want)
	}
}

// P5.1: writes and flushes take from one fuse.
func TestFuseBoth(t *testing.T) {
	d := made(t, 3)
	d.Fuse(4)
	mustWrite(t, d, 0, block(1))
	mustFlush(t, d)
	mustWrite(t, d, 1, block(2))
	mustWrite(t, d, 0, block(3))
	wantAll(t, d, map[int]api.Block{0: block(3), 1: block(2)})
	if e := d.Flush(); e != api.ErrDown {
		t.Errorf("error %d", e)
	}
	wantDown(t, d, 2)
	d.Up()
	wantAll(t, d, map[int]api.Block{0: block(1)})
}

// P5.1: with a fuse at 0 the disk is up, and read, till a write or a flush asks for more.
func TestFuseAtZeroReads(t *testing.T) {
	for name, ask := range map[string]func(d *Disk) api.Errno{
		"Write": func(d *Disk) api.Errno { return d.Write(1, block(9)) },
		"Flush": func(d *Disk) api.Errno { return d.Flush() },
	} {
		d := made(t, 3)
		mustWrite(t, d, 2, block(2))
		d.Fuse(1)
		mustWrite(t, d, 1, block(1))
		for range 5 {
			wantLoose(t, d, 2, false)
			wantAll(t, d, map[int]api.Block{1: block(1), 2: block(2)})
		}
		if e := ask(d); e != api.ErrDown {
			t.Errorf("%s: error %d", name, e)
		}
		wantDown(t, d, 2)
	}
}

// P5.1: what is refused for its number takes nothing from the fuse, and a read never does.
func TestFuseIsNotTaken(t *testing.T) {
	d := made(t, 3)
	for _, n := range []int{0, 1, 3} {
		d.Fuse(n)
		wantOutside(t, d)
		wantAll(t, d, nil)
		wantLoose(t, d, 0, false)
		for k := range n {
			mustWrite(t, d, k, block(k))
		}
		if e := d.Write(0, block(9)); e != api.ErrDown {
			t.Errorf("fuse %d: error %d", n, e)
		}
		wantDown(t, d, n)
		d.Up()
	}
}

// P5.1: below 0 there is no fuse; a new disk has none.
func TestNoFuse(t *testing.T) {
	for _, n := range []int{-1, -2, -100, math.MinInt, math.MinInt + 1} {
		d := made(t, 2)
		d.Fuse(3)
		d.Fuse(n)
		for k := range 300 {
			mustWrite(t, d, k%2, block(k))
			if k%3 == 0 {
				mustFlush(t, d)
			}
		}
		if d.Down() {
			t.Errorf("fuse %d: down", n)
		}
	}
	d := made(t, 2)
	for k := range 3000 {
		mustWrite(t, d, k%2, block(k))
		mustFlush(t, d)
	}
	wantLoose(t, d, 0, false)
}

// P5.1: the last fuse that was set counts, greater or less than what was left.
func TestFuseAnew(t *testing.T) {
	d := made(t, 2)
	d.Fuse(0)
	d.Fuse(2)
	mustWrite(t, d, 0, block(1))
	d.Fuse(3)
	for range 3 {
		mustWrite(t, d, 0, block(2))
	}
	d.Fuse(math.MaxInt)
	mustFlush(t, d)
	mustWrite(t, d, 0, block(3))
	d.Fuse(0)
	wantLoose(t, d, 1, false)
	if e := d.Flush(); e != api.ErrDown {
		t.Errorf("error %d", e)
	}
	wantDown(t, d, 1)
}

// P5.1: a disk that is down stays so, whatever its fuse; behind Up there is none.
func TestFuseOfOneDown(t *testing.T) {
	for _, n := range []int{-1, 0, 1, 5, math.MinInt, math.MaxInt} {
		d := made(t, 2)
		mustWrite(t, d, 1, block(1))
		d.Fuse(0)
		d.Flush()
		d.Fuse(n)
		wantDown(t, d, 1)
		d.Up(1)
		wantLoose(t, d, 0, false)
		for k := range 20 {
			mustWrite(t, d, 0, block(k))
			mustFlush(t, d)
		}
		wantAll(t, d, map[int]api.Block{0: block(19), 1: block(1)})
	}
}

// looseOf is a disk of 4 sectors, sector 1 and 2 flushed, with five loose writes: of 1, 2, 1, 3, 1.
func looseOf(t *testing.T) *Disk {
	t.Helper()
	d := made(t, 4)
	mustWrite(t, d, 1, block(11))
	mustWrite(t, d, 2, block(12))
	mustFlush(t, d)
	for k, i := range []int{1, 2, 1, 3, 1} {
		mustWrite(t, d, i, block(k))
	}
	return d
}

// P5.2: the chapter's example, of two writes of one sector and of two.
func TestUpExample(t *testing.T) {
	d := made(t, 2)
	mustWrite(t, d, 0, block(1))
	mustWrite(t, d, 0, block(2))
	d.Up(0, 1)
	wantAll(t, d, map[int]api.Block{0: block(2)})
	d = made(t, 2)
	mustWrite(t, d, 0, block(1))
	mustWrite(t, d, 1, block(2))
	d.Up(0, 1)
	wantAll(t, d, map[int]api.Block{1: block(2)})
}

// P5.2: known bytes of keep, none, fewer and more than there are loose writes.
func TestUpKnown(t *testing.T) {
	for _, x := range []struct {
		keep []byte
		want [4]int // the block of each sector, 0: zeros; loose write k is k and 1
	}{
		{nil, [4]int{0, 12, 13, 0}},
		{[]byte{}, [4]int{0, 12, 13, 0}},
		{[]byte{0, 0, 0, 0, 0}, [4]int{0, 12, 13, 0}},
		{[]byte{1}, [4]int{0, 1, 13, 0}},
		{[]byte{0, 1}, [4]int{0, 12, 2, 0}},
		{[]byte{1, 0, 1}, [4]int{0, 3, 13, 0}},
		{[]byte{1, 1, 0, 1}, [4]int{0, 1, 2, 4}},
		{[]byte{1, 1, 1, 1, 1}, [4]int{0, 5, 2, 4}},
		{[]byte{0, 0, 0, 0, 1}, [4]int{0, 5, 13, 0}},
		{[]byte{1, 0, 0, 0, 0, 1}, [4]int{0, 1, 13, 0}},
		{[]byte{1, 1, 1, 1, 1, 1, 1, 1}, [4]int{0, 5, 2, 4}},
		{[]byte{0, 0, 0, 0, 0, 1, 1, 1}, [4]int{0, 12, 13, 0}},
		{[]byte{255, 3, 254, 128, 2}, [4]int{0, 1, 2, 0}},
		{[]byte{0x80, 0xfe, 0x81, 0x7f, 0x10}, [4]int{0, 3, 13, 4}},
		{bytes.Repeat([]byte{1}, 5000), [4]int{0, 5, 2, 4}},
	} {
		d := looseOf(t)
		d.Up(x.keep...)
		wantLoose(t, d, 0, false)
		want := map[int]api.Block{}
		for i, n := range x.want {
			if n > 0 {
				want[i] = block(n - 1)
			}
		}
		wantAll(t, d, want)
		// What an Up did not keep comes back by no flush, and by no second Up.
		mustFlush(t, d)
		d.Up(1, 1, 1, 1, 1)
		wantAll(t, d, want)
	}
}

// P5.2: each value that a byte of keep may have.
func TestUpEachByte(t *testing.T) {
	for k := range 256 {
		d := made(t, 1)
		mustWrite(t, d, 0, block(1))
		mustFlush(t, d)
		mustWrite(t, d, 0, block(2))
		d.Up(byte(k))
		if k%2 == 1 {
			wantRead(t, d, 0, block(2))
		} else {
			wantRead(t, d, 0, block(1))
		}
	}
}

// P5.2: an Up ends a fuse, whether it blew or not, and whether the disk was down or not.
func TestUpEndsFuse(t *testing.T) {
	for _, n := range []int{0, 1, 2} {
		for _, blow := range []bool{false, true} {
			d := made(t, 2)
			mustWrite(t, d, 1, block(1))
			d.Fuse(n)
			for range n {
				mustWrite(t, d, 0, block(2))
			}
			if blow {
				d.Flush()
			}
			wantLoose(t, d, n+1, blow)
			d.Up(1)
			wantLoose(t, d, 0, false)
			wantAll(t, d, map[int]api.Block{1: block(1)})
			for k := range 20 {
				mustWrite(t, d, 0, block(k))
			}
			mustFlush(t, d)
			wantAll(t, d, map[int]api.Block{0: block(19), 1: block(1)})
		}
	}
}

// P5.2: a new disk, and one without anything loose, are as they were behind an Up.
func TestUpOfNothing(t *testing.T) {
	d := made(t, 3)
	d.Up()
	d.Up(1, 1, 1)
	wantAll(t, d, nil)
	wantLoose(t, d, 0, false)
	mustWrite(t, d, 2, block(2))
	mustFlush(t, d)
	d.Up(1, 1, 1)
	wantAll(t, d, map[int]api.Block{2: block(2)})
	if d.Len() != 3 {
		t.Errorf("Len %d", d.Len())
	}
}

// P5.2: the bytes of keep count from the first write that is loose, not from those that a flush did.
func TestUpCountsLooseOnes(t *testing.T) {
	d := made(t, 3)
	mustWrite(t, d, 0, block(1))
	mustWrite(t, d, 1, block(2))
	mustFlush(t, d)
	mustWrite(t, d, 1, block(3))
	mustWrite(t, d, 2, block(4))
	d.Up(0, 1)
	wantAll(t, d, map[int]api.Block{0: block(1), 1: block(2), 2: block(4)})
	mustWrite(t, d, 0, block(5))
	mustWrite(t, d, 1, block(6))
	d.Up(1)
	wantAll(t, d, map[int]api.Block{0: block(5), 1: block(2), 2: block(4)})
}

// P5.2: a write that a fuse did not let through is none of the loose ones.
func TestUpWithoutRefusedWrites(t *testing.T) {
	d := made(t, 3)
	d.Fuse(1)
	mustWrite(t, d, 0, block(1))
	for range 3 {
		if e := d.Write(1, block(2)); e != api.ErrDown {
			t.Errorf("error %d", e)
		}
		if e := d.Write(3, block(2)); e != api.ErrArg {
			t.Errorf("error %d", e)
		}
	}
	d.Up(1, 1, 1, 1, 1, 1, 1)
	wantAll(t, d, map[int]api.Block{0: block(1)})
}

// Rule 2: keep, its spare room included, is as it was, and is not kept.
func TestUpChangesNothing(t *testing.T) {
	room := []byte{1, 0, 3, 2, 255, 254, 7, 6, 5, 4}
	for n := range len(room) {
		ahead := slices.Clone(room)
		d := looseOf(t)
		d.Up(room[:n]...)
		if !bytes.Equal(room, ahead) {
			t.Errorf("%d bytes: %v", n, room)
		}
		// Bytes in the spare room are none of keep.
		other := looseOf(t)
		other.Up(slices.Clone(room[:n])...)
		for i := range 4 {
			b, _ := other.Read(i)
			wantRead(t, d, i, b)
		}
	}
	keep := []byte{1, 1}
	d := made(t, 2)
	d.Up(keep...)
	keep[0], keep[1] = 0, 0
	mustWrite(t, d, 0, block(1))
	d.Up(1)
	wantRead(t, d, 0, block(1))
}

// history is a disk, and what must be there behind any Up: what was flushed, and not written since.
type history struct {
	*Disk
	flushed, since map[int]api.Block
}

func (h history) write(i int, b api.Block) {
	if h.Write(i, b) == api.OK {
		delete(h.flushed, i)
		h.since[i] = b
	}
}

func (h history) flush() {
	if h.Flush() == api.OK {
		maps.Copy(h.flushed, h.since)
		clear(h.since)
	}
}

// P5.3: what was flushed, and not written since, is there behind any Up, wherever a fuse cuts what comes.
func TestFlushedStays(t *testing.T) {
	for fuse := -1; fuse < 9; fuse++ {
		for bits := range 1 << 4 {
			h := history{made(t, 4), map[int]api.Block{}, map[int]api.Block{}}
			for i := range 4 {
				h.write(i, block(i+20))
			}
			h.flush()
			h.Fuse(fuse)
			h.write(1, block(1))
			h.write(2, block(2))
			h.flush()
			h.write(2, block(3))
			h.write(0, block(4))
			h.write(2, block(5))
			h.Up(byte(bits), byte(bits>>1), byte(bits>>2), byte(bits>>3))
			if len(h.flushed) == 0 {
				t.Errorf("fuse %d: nothing was flushed", fuse)
			}
			for i, b := range h.flushed {
				wantRead(t, h.Disk, i, b)
			}
		}
	}
}

// told is the chapter's words told another way: no sectors, but all writes that were done and all that are loose, gone through anew at each question.
type told struct {
	n      int
	lasted []api.Put
	loose  []api.Put
	left   int
	fused  bool
	down   bool
}

// at is sector i behind the writes of a list.
func at(i int, list ...api.Put) api.Block {
	var b api.Block
	for _, w := range list {
		if w.At == i {
			b = w.Data
		}
	}
	return b
}

func (m *told) read(i int) (api.Block, api.Errno) {
	switch {
	case i < 0 || i >= m.n:
		return api.Block{}, api.ErrArg
	case m.down:
		return api.Block{}, api.ErrDown
	}
	return at(i, slices.Concat(m.lasted, m.loose)...), api.OK
}

func (m *told) through() api.Errno {
	m.down = m.down || m.fused && m.left == 0
	if m.down {
		return api.ErrDown
	}
	m.left--
	return api.OK
}

func (m *told) write(i int, b api.Block) api.Errno {
	if i < 0 || i >= m.n {
		return api.ErrArg
	}
	e := m.through()
	if e == api.OK {
		m.loose = append(m.loose, api.Put{At: i, Data: b})
	}
	return e
}

func (m *told) flush() api.Errno {
	e := m.through()
	if e == api.OK {
		m.lasted, m.loose = append(m.lasted, m.loose...), nil
	}
	return e
}

func (m *told) fuse(n int) {
	m.left, m.fused = n, n >= 0
}

func (m *told) up(keep []byte) {
	for k := range min(len(keep), len(m.loose)) {
		if keep[k]&1 != 0 {
			m.lasted = append(m.lasted, m.loose[k])
		}
	}
	m.loose, m.fused, m.down = nil, false, false
}

// step does one thing by lot on both, and holds their answers against each other.
func step(t *testing.T, lot *rand.Rand, d *Disk, m *told) {
	t.Helper()
	i := lot.Intn(m.n+2) - 1
	switch k := lot.Intn(20); {
	case k < 10:
		b := block(lot.Intn(1000))
		if got, want := d.Write(i, b), m.write(i, b); got != want {
			t.Errorf("Write(%d): error %d, want %d", i, got, want)
		}
	case k < 13:
		if got, want := d.Flush(), m.flush(); got != want {
			t.Errorf("Flush: error %d, want %d", got, want)
		}
	case k < 15:
		n := lot.Intn(12) - 2
		d.Fuse(n)
		m.fuse(n)
	case k < 17:
		keep := make([]byte, lot.Intn(8))
		lot.Read(keep)
		d.Up(keep...)
		m.up(keep)
	}
	for i := -1; i <= m.n; i++ {
		got, e := d.Read(i)
		if want, wantE := m.read(i); got != want || e != wantE {
			t.Errorf("Read(%d): %x, error %d, want %x, error %d", i, got, e, want, wantE)
		}
	}
	if d.Len() != m.n || d.Loose() != len(m.loose) || d.Down() != m.down {
		t.Errorf("Len %d, Loose %d, Down %v, want %d, %d, %v", d.Len(), d.Loose(), d.Down(), m.n, len(m.loose), m.down)
	}
}

// P5.1, P5.2: calls by lot, held against the chapter's words told another way.
func TestLots(t *testing.T) {
	for seed := range int64(200) {
		lot := rand.New(rand.NewSource(seed))
		n := 1 + lot.Intn(6)
		d, m := made(t, n), &told{n: n}
		for range 100 {
			step(t, lot, d, m)
		}
		if t.Failed() {
			t.Fatalf("lot %d", seed)
		}
	}
}

// Rule 4: the same calls are answered the same, whatever other disks go through.
func TestNothingRemembered(t *testing.T) {
	for range 3 {
		d := looseOf(t)
		other := made(t, 4)
		other.Fuse(0)
		other.Write(1, block(50))
		d.Up(1, 0, 0, 1)
		other.Up(1)
		wantAll(t, d, map[int]api.Block{1: block(0), 2: block(12), 3: block(3)})
		wantAll(t, other, nil)
	}
}
