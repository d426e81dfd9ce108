package node

import (
	"encoding/hex"
	"math"
	"math/rand"
	"slices"
	"testing"

	"tollhouse/api"
	"tollhouse/disk"
	"tollhouse/label"
	"tollhouse/seal"
	"tollhouse/wal"
)

// made counts the blocks that were made, so that no two are alike.
var made uint32

// aBlock is one that is unlike all others.
func aBlock() api.Block {
	made++
	b := api.Block(slices.Repeat([]byte{0xb7}, api.Size))
	for i := range 4 {
		b[i] = byte(made >> (8 * i))
	}
	return b
}

// record is one of that number, of writes of those blocks, no two of the same Data.
func record(epoch, seq uint32, at ...int) wal.Record {
	r := wal.Record{Epoch: epoch, Seq: seq}
	for _, a := range at {
		r.Puts = append(r.Puts, api.Put{At: a, Data: aBlock()})
	}
	return r
}

// newDisk is a disk of those sectors, all of them flushed.
func newDisk(t *testing.T, sectors ...api.Block) *disk.Disk {
	t.Helper()
	d, e := disk.New(len(sectors))
	if e != api.OK {
		t.Fatal("no disk:", e)
	}
	for i, b := range sectors {
		d.Write(i, b)
	}
	d.Flush()
	return d
}

// sectors are all that d has.
func sectors(t *testing.T, d *disk.Disk) []api.Block {
	t.Helper()
	var all []api.Block
	for i := range d.Len() {
		b, e := d.Read(i)
		if e != api.OK {
			t.Fatalf("sector %d: error %d", i, e)
		}
		all = append(all, b)
	}
	return all
}

// open is the node of d.
func open(t *testing.T, d *disk.Disk) *Node {
	t.Helper()
	n, e := Open(d)
	if n == nil || e != api.OK {
		t.Fatalf("no node: error %d", e)
	}
	return n
}

// wantNoNode holds Open against telling that error and nothing else.
func wantNoNode(t *testing.T, d *disk.Disk, want api.Errno, what string) {
	t.Helper()
	if n, e := Open(d); n != nil || e != want {
		t.Errorf("%s: %v, error %d, want error %d", what, n, e, want)
	}
}

// state is what a node tells: its label, and its blocks.
type state struct {
	api.Label
	blocks [12]api.Block
}

// told is what n tells.
func told(t *testing.T, n *Node) state {
	t.Helper()
	s := state{Label: n.Label()}
	for i := range s.blocks {
		b, e := n.Block(i)
		if e != api.OK {
			t.Fatalf("block %d: error %d", i, e)
		}
		s.blocks[i] = b
	}
	return s
}

// carriedOut is s behind r, as the chapter's words have it.
func carriedOut(s state, r wal.Record, dirty uint16) state {
	next := uint32((uint64(r.Seq) + 1) % (1 << 32))
	if next < s.Next {
		next = s.Next
	}
	s.Label = api.Label{Epoch: r.Epoch, Seq: r.Seq, Next: next, Dirty: dirty}
	for _, p := range r.Puts {
		s.blocks[p.At] = p.Data
		s.Last |= 1 << p.At
	}
	return s
}

// is tells whether a later node tells what want says, its Dirty that one or the other.
func (s state) is(want state, dirty ...uint16) bool {
	ok := slices.Contains(dirty, s.Dirty)
	s.Dirty = want.Dirty
	return ok && s == want
}

// labels are such at the edges, the first one that of a cell's beginning.
func labels() []api.Label {
	const most = math.MaxUint32
	return []api.Label{
		{Epoch: 1, Next: 1},
		{},
		{Epoch: 1, Seq: 4, Next: 9, Dirty: 0x0801, Last: 0x0003},
		{Epoch: most, Seq: most, Next: most, Dirty: 0xffff, Last: 0xffff},
		{Epoch: 0x04030201, Seq: 0x08070605, Next: 0x0c0b0a09, Dirty: 0x0e0d, Last: 0x100f},
	}
}

// someNode is a node of that label, whose blocks are no two alike, and whose log has a record that it carried out.
func someNode(t *testing.T, l api.Label) *Node {
	t.Helper()
	n := open(t, New())
	for _, first := range []int{0, 5, 7} {
		r := record(0, n.Label().Seq+1, first, first+1, first+2, first+3, first+4)
		if e := n.Apply(r, 0); e != api.OK {
			t.Fatalf("apply: error %d", e)
		}
	}
	if e := n.SetLabel(l); e != api.OK {
		t.Fatalf("label: error %d", e)
	}
	return n
}

// copyOf is a disk of its own with the same sectors as d.
func copyOf(t *testing.T, d *disk.Disk) *disk.Disk {
	t.Helper()
	return newDisk(t, sectors(t, d)...)
}

// step is a write of a disk, or a flush.
type step struct {
	flush bool
	at    int
	data  api.Block
}

// carrySteps are what the words say of carrying out a record.
func carrySteps(s state, r wal.Record, dirty uint16) []step {
	var all []step
	for _, p := range r.Puts {
		all = append(all, step{at: 7 + p.At, data: p.Data})
	}
	l := label.Encode(carriedOut(s, r, dirty).Label)
	return append(all, step{flush: true}, step{at: 0, data: l}, step{flush: true})
}

// applySteps are what the words say that Apply does; the log's header comes from layer 8.
func applySteps(t *testing.T, s state, r wal.Record, dirty uint16) []step {
	t.Helper()
	d := New()
	if e := wal.Put(d, 1, r); e != api.OK {
		t.Fatalf("log: error %d", e)
	}
	header, _ := d.Read(1)
	var all []step
	for k, p := range r.Puts {
		all = append(all, step{at: 2 + k, data: p.Data})
	}
	all = append(all, step{flush: true}, step{at: 1, data: header}, step{flush: true})
	return append(all, carrySteps(s, r, dirty)...)
}

// behind is what stands on a disk behind the first n of the steps, and how many of them are loose.
func behind(ahead []api.Block, all []step, n int, keep []byte) ([]api.Block, int) {
	now := slices.Clone(ahead)
	var loose []step
	for _, s := range all[:n] {
		if !s.flush {
			loose = append(loose, s)
			continue
		}
		for _, w := range loose {
			now[w.at] = w.data
		}
		loose = nil
	}
	for k, w := range loose {
		if k < len(keep) && keep[k]%2 == 1 {
			now[w.at] = w.data
		}
	}
	return now, len(loose)
}

// keeps are all choices of which of n loose writes survive.
func keeps(n int) [][]byte {
	all := [][]byte{nil}
	for bits := range 1 << n {
		keep := make([]byte, n)
		for k := range keep {
			keep[k] = byte(bits >> k & 1)
		}
		all = append(all, keep)
	}
	return all
}

// P9.1: a new disk has 19 sectors of zeros, and no fuse; each is another one.
func TestNew(t *testing.T) {
	d := New()
	if d == nil || d.Len() != 19 || d.Down() || d.Loose() != 0 {
		t.Fatalf("%v", d)
	}
	for i, b := range sectors(t, d) {
		if b != (api.Block{}) {
			t.Errorf("sector %d: %x", i, b)
		}
	}
	for range 1000 {
		if d.Write(18, api.Block{1}) != api.OK || d.Flush() != api.OK {
			t.Fatal("a fuse")
		}
	}
	if b, _ := New().Read(18); b != (api.Block{}) {
		t.Error("two disks are one")
	}
}

// P9.1: the chapter's example, and nothing is written for it.
func TestNewNode(t *testing.T) {
	d := New()
	d.Fuse(0)
	n := open(t, d)
	if told(t, n) != (state{}) || d.Down() || d.Loose() != 0 {
		t.Errorf("%v", told(t, n))
	}
}

// P9.1: a disk of 19 sectors alone will do, be it down or not.
func TestOpenArg(t *testing.T) {
	wantNoNode(t, nil, api.ErrArg, "no disk")
	wantNoNode(t, &disk.Disk{}, api.ErrArg, "a disk of no sectors")
	for n := 1; n <= 1024; n++ {
		if n == 19 {
			continue
		}
		d := newDisk(t, make([]api.Block, n)...)
		wantNoNode(t, d, api.ErrArg, "another size")
		d.Write(0, api.Block{1})
		wantNoNode(t, d, api.ErrArg, "another size, no label")
		d.Fuse(0)
		d.Flush()
		wantNoNode(t, d, api.ErrArg, "another size, down")
	}
}

// P9.1: a disk that is down: its error, whatever stands on it.
func TestOpenDown(t *testing.T) {
	for _, first := range []api.Block{{}, label.Encode(api.Label{Epoch: 1}), {1}} {
		d := newDisk(t, append([]api.Block{first}, make([]api.Block, 18)...)...)
		d.Fuse(0)
		d.Flush()
		wantNoNode(t, d, api.ErrDown, "down")
	}
}

// P9.1: sector 0 is no label's, though the log has a record; nothing is written.
func TestOpenForm(t *testing.T) {
	header, _ := seal.Encode(0x57, []byte{1, 0, 0, 0, 1, 0, 0, 0, 1, 3})
	other, _ := seal.Encode(0x4d, nil)
	behind, _ := seal.Encode(0x4c, append(make([]byte, 16), 1))
	turned := label.Encode(api.Label{Epoch: 1, Next: 1})
	turned[31] ^= 1
	for what, b := range map[string]api.Block{"a header": header, "another mark": other, "bytes behind Last": behind, "a wrong check": turned, "a byte": {1}, "a late byte": {31: 1}} {
		d := New()
		wal.Put(d, 1, record(9, 9, 3))
		d.Write(0, b)
		d.Flush()
		ahead := sectors(t, d)
		d.Fuse(0)
		wantNoNode(t, d, api.ErrForm, what)
		if d.Down() || !slices.Equal(sectors(t, d), ahead) {
			t.Errorf("%s: written", what)
		}
	}
}

// P9.1: a node of nil: zero results, and ErrArg.
func TestNil(t *testing.T) {
	var n *Node
	if l := n.Label(); l != (api.Label{}) {
		t.Errorf("label %v", l)
	}
	if e := n.SetLabel(api.Label{Epoch: 1}); e != api.ErrArg {
		t.Errorf("set: error %d", e)
	}
	for _, i := range []int{-1, 0, 11, 12} {
		if b, e := n.Block(i); b != (api.Block{}) || e != api.ErrArg {
			t.Errorf("block %d: %x, error %d", i, b, e)
		}
	}
	for _, r := range []wal.Record{record(1, 1, 0), {}, record(0, 0, 0)} {
		if e := n.Apply(r, 1); e != api.ErrArg {
			t.Errorf("apply: error %d", e)
		}
	}
}

// P9.1: the label that was set is the label, and lasts behind an Up that keeps nothing; no other sector is touched.
func TestSetLabel(t *testing.T) {
	for _, l := range labels() {
		n := someNode(t, api.Label{Epoch: 5, Seq: 9, Next: 7})
		ahead := sectors(t, n.Disk)
		if e := n.SetLabel(l); e != api.OK || n.Label() != l {
			t.Errorf("%v: %v, error %d", l, n.Label(), e)
		}
		if n.Disk.Loose() != 0 {
			t.Errorf("%v: loose", l)
		}
		n.Disk.Up()
		ahead[0] = label.Encode(l)
		if now := sectors(t, n.Disk); !slices.Equal(now, ahead) {
			t.Errorf("%v: %x, want %x", l, now, ahead)
		}
	}
	// Where no log is later than it, Open tells just what was set.
	for _, l := range labels() {
		n := open(t, New())
		n.SetLabel(l)
		n.Disk.Up()
		if again := open(t, n.Disk); again.Label() != l {
			t.Errorf("%v: %v", l, again.Label())
		}
	}
}

// P9.1: the same label once more is written and flushed as well.
func TestSetLabelAgain(t *testing.T) {
	n := someNode(t, api.Label{Epoch: 1, Next: 1})
	n.Disk.Fuse(1)
	if e := n.SetLabel(n.Label()); e != api.ErrDown || n.Disk.Loose() != 1 {
		t.Errorf("error %d, %d loose", e, n.Disk.Loose())
	}
}

// P9.1: a label that is cut, at its write and its flush: the disk's error; the one ahead, or the new one.
func TestSetLabelCut(t *testing.T) {
	old, now := api.Label{Epoch: 1, Seq: 15, Next: 16}, api.Label{Epoch: 2, Next: 1, Dirty: 0x0fff}
	for fuse := range 4 {
		for _, keep := range keeps(1) {
			n := someNode(t, old)
			n.Disk.Fuse(fuse)
			e := n.SetLabel(now)
			if fuse < 2 && e != api.ErrDown || fuse >= 2 && e != api.OK {
				t.Errorf("fuse %d: error %d", fuse, e)
			}
			n.Disk.Up(keep...)
			want := old
			if fuse >= 2 || fuse == 1 && len(keep) > 0 && keep[0] == 1 {
				want = now
			}
			if l := open(t, n.Disk).Label(); l != want {
				t.Errorf("fuse %d, %v kept: %v, want %v", fuse, keep, l, want)
			}
		}
	}
}

// P9.1: a disk that is down under a node: its error.
func TestDown(t *testing.T) {
	n := someNode(t, api.Label{Epoch: 1, Seq: 15, Next: 16})
	ahead := sectors(t, n.Disk)
	n.Disk.Fuse(0)
	n.Disk.Flush()
	if e := n.SetLabel(api.Label{Epoch: 9}); e != api.ErrDown {
		t.Errorf("label: error %d", e)
	}
	if b, e := n.Block(3); b != (api.Block{}) || e != api.ErrDown {
		t.Errorf("block: %x, error %d", b, e)
	}
	if b, e := n.Block(12); b != (api.Block{}) || e != api.ErrArg {
		t.Errorf("no block: %x, error %d", b, e)
	}
	if e := n.Apply(record(9, 9, 3), 1); e != api.ErrDown {
		t.Errorf("apply: error %d", e)
	}
	if e := n.Apply(record(9, 9, 12), 1); e != api.ErrArg {
		t.Errorf("apply of no block: error %d", e)
	}
	if e := n.Apply(record(1, 15, 3), 1); e != api.ErrStale {
		t.Errorf("apply again: error %d", e)
	}
	n.Disk.Up(1, 1, 1)
	if !slices.Equal(sectors(t, n.Disk), ahead) {
		t.Error("written")
	}
}

// P9.1: a block is sector 7 and its number; there are twelve.
func TestBlock(t *testing.T) {
	n := open(t, New())
	for i := range 19 {
		n.Disk.Write(i, api.Block{byte(i), 0xee})
	}
	for i := range 12 {
		if b, e := n.Block(i); b != (api.Block{byte(i + 7), 0xee}) || e != api.OK {
			t.Errorf("block %d: %x, error %d", i, b, e)
		}
	}
	for _, i := range []int{-1, -2, -7, 12, 13, 19, 255, 256, 1 << 32, -1 << 32, math.MaxInt, math.MaxInt - 6, math.MaxInt - 7, math.MinInt, math.MinInt + 7} {
		if b, e := n.Block(i); b != (api.Block{}) || e != api.ErrArg {
			t.Errorf("block %d: %x, error %d", i, b, e)
		}
	}
}

// P9.2: puts that are not Good, be the record old or new: ErrArg; nothing is written, and no fuse is used up.
func TestApplyArg(t *testing.T) {
	for _, seq := range []uint32{3, 4, 5} {
		for _, at := range [][]int{{}, {-1}, {12}, {0, 1, 2, 3, 4, 5}, {3, 3}, {3, 0, 3}, {0, 1, 2, 3, 12}, {math.MinInt}, {math.MaxInt, 1}} {
			n := someNode(t, api.Label{Epoch: 1, Seq: 4, Next: 5})
			n.Disk.Fuse(0)
			s := told(t, n)
			if e := n.Apply(record(1, seq, at...), 7); e != api.ErrArg || n.Disk.Down() || told(t, n) != s {
				t.Errorf("seq %d, %v: error %d", seq, at, e)
			}
		}
	}
	n := open(t, New())
	if e := n.Apply(wal.Record{}, 0); e != api.ErrArg {
		t.Errorf("nothing: error %d", e)
	}
}

// P9.2: what is not later than the label: ErrStale; nothing is written, and no fuse is used up.
func TestApplyStale(t *testing.T) {
	const most = math.MaxUint32
	for _, x := range []struct {
		epoch, seq uint32 // of the label
		e, s       uint32 // of the record
		want       api.Errno
	}{
		{0, 0, 0, 0, api.ErrStale}, {0, 0, 0, 1, api.OK}, {0, 0, 1, 0, api.OK},
		{2, 4, 2, 4, api.ErrStale}, {2, 4, 2, 3, api.ErrStale}, {2, 4, 2, 0, api.ErrStale}, {2, 4, 2, 5, api.OK}, {2, 4, 2, most, api.OK},
		{2, 4, 1, 4, api.ErrStale}, {2, 4, 1, 5, api.ErrStale}, {2, 4, 1, most, api.ErrStale}, {2, 4, 0, 9, api.ErrStale},
		{2, 4, 3, 4, api.OK}, {2, 4, 3, 0, api.OK}, {2, 4, most, 0, api.OK},
		{most, most, most, most, api.ErrStale}, {most, most, 0, 0, api.ErrStale}, {most, most, 1, most, api.ErrStale},
		{most, most - 1, most, most, api.OK}, {most - 1, most, most, 0, api.OK},
		{1, most, 1, 0, api.ErrStale}, {1, 0, 1, 1 << 31, api.OK}, {1, 1 << 31, 1, 0, api.ErrStale},
	} {
		n := someNode(t, api.Label{Epoch: x.epoch, Seq: x.seq, Next: 8, Dirty: 1, Last: 2})
		ahead := told(t, n)
		if x.want == api.ErrStale {
			n.Disk.Fuse(0)
		}
		r := record(x.e, x.s, 3, 9)
		e := n.Apply(r, 0x0100)
		want := ahead
		if x.want == api.OK {
			want = carriedOut(ahead, r, 0x0100)
		}
		if e != x.want || n.Disk.Down() || told(t, n) != want {
			t.Errorf("%v: error %d, %v", x, e, told(t, n))
		}
	}
}

// P9.2: a known disk, sector by sector; the checks come from elsewhere (Python's crc_hqx of the bits in reverse).
func TestApplyKnown(t *testing.T) {
	d := New()
	n := open(t, d)
	n.SetLabel(api.Label{Epoch: 1, Next: 1})
	if e := n.Apply(wal.Record{Epoch: 1, Seq: 5, Puts: []api.Put{{At: 11, Data: api.Block{0xaa}}, {At: 0, Data: api.Block{31: 0xbb}}}}, 3); e != api.OK {
		t.Fatalf("error %d", e)
	}
	d.Up()
	want := make([]api.Block, 19)
	hex.Decode(want[0][:], []byte("4c01000000050000000600000003000108000000000000000000000000003065"))
	hex.Decode(want[1][:], []byte("570100000005000000020b000000000000000000000000000000000000006bfd"))
	want[2], want[18] = api.Block{0xaa}, api.Block{0xaa}
	want[3], want[7] = api.Block{31: 0xbb}, api.Block{31: 0xbb}
	if now := sectors(t, d); !slices.Equal(now, want) {
		t.Errorf("%x, want %x", now, want)
	}
	if l := n.Label(); l != (api.Label{Epoch: 1, Seq: 5, Next: 6, Dirty: 3, Last: 0x0801}) {
		t.Errorf("%v", l)
	}
}

// P9.2: Next is as it was, or Seq and 1, whichever is greater, and goes round at the greatest number.
func TestNext(t *testing.T) {
	const most = math.MaxUint32
	for _, x := range []struct{ next, seq, want uint32 }{
		{0, 1, 2}, {1, 1, 2}, {2, 1, 2}, {3, 1, 3}, {5, 4, 5}, {4, 4, 5}, {9, 4, 9}, {most, 4, most}, {0, 1 << 31, 1<<31 + 1}, {1 << 31, 1, 1 << 31},
		{0, most - 1, most}, {most, most - 1, most}, {7, most - 1, most}, {0, most, 0}, {1, most, 1}, {7, most, 7}, {most, most, most},
	} {
		l := api.Label{Epoch: 1, Next: x.next}
		n := someNode(t, l)
		if e := n.Apply(record(1, x.seq, 4), 0); e != api.OK || n.Label().Next != x.want {
			t.Errorf("%v: %d, error %d", x, n.Label().Next, e)
		}
		// The same where Open carries it out.
		d := New()
		open(t, d).SetLabel(l)
		wal.Put(d, 1, record(1, x.seq, 4))
		if next := open(t, d).Label().Next; next != x.want {
			t.Errorf("open: %v: %d", x, next)
		}
	}
}

// P9.2: Dirty is what is told, whatever it was, and beyond the blocks as well; Last is of this record alone.
func TestDirty(t *testing.T) {
	for _, was := range []uint16{0, 1, 0x0800, 0x0fff, 0xffff} {
		for _, dirty := range []uint16{0, 1, 0x0800, 0x0fff, 0x1000, 0xffff} {
			n := someNode(t, api.Label{Epoch: 1, Dirty: was, Last: 0xffff})
			if e := n.Apply(record(1, 1, 0, 7), dirty); e != api.OK || n.Label().Dirty != dirty || n.Label().Last != 0x0081 {
				t.Errorf("%04x: %v, error %d", dirty, n.Label(), e)
			}
		}
	}
}

// P9.2: one record behind the other, by lot, held against what the words say; opened anew now and then.
func TestApplyMany(t *testing.T) {
	lot := rand.New(rand.NewSource(9))
	n := someNode(t, api.Label{Epoch: 1, Next: 1})
	want := told(t, n)
	for range 2000 {
		r := record(want.Epoch, want.Seq+1+uint32(lot.Intn(3)), lot.Perm(12)[:1+lot.Intn(5)]...)
		if lot.Intn(4) == 0 {
			r.Epoch, r.Seq = r.Epoch+1+uint32(lot.Intn(2)), uint32(lot.Intn(3))
		}
		dirty := uint16(lot.Uint32())
		want = carriedOut(want, r, dirty)
		if e := n.Apply(r, dirty); e != api.OK || told(t, n) != want {
			t.Fatalf("%v: %v, error %d", r, told(t, n), e)
		}
		if e := n.Apply(r, dirty+1); e != api.ErrStale || told(t, n) != want {
			t.Fatalf("%v again: error %d", r, e)
		}
		if lot.Intn(3) == 0 {
			n.Disk.Up()
			n.Disk.Fuse(0)
			n = open(t, n.Disk)
			n.Disk.Fuse(-1)
			if told(t, n) != want {
				t.Fatalf("opened: %v, want %v", told(t, n), want)
			}
		}
	}
}

// cases are a label, and a record that is later, of one to five puts.
func cases() []struct {
	l api.Label
	r wal.Record
} {
	return []struct {
		l api.Label
		r wal.Record
	}{
		{api.Label{Epoch: 1, Next: 1}, record(1, 1, 0)},
		{api.Label{Epoch: 1, Seq: 15, Next: 20, Dirty: 0x0801, Last: 0x0f80}, record(1, 16, 11, 0)},
		{api.Label{Epoch: 1, Seq: 15, Next: 16, Dirty: 0x0020, Last: 0x0001}, record(2, 0, 0, 5, 11, 6, 3)},
		{api.Label{Epoch: 3, Seq: 15, Next: 2}, record(3, math.MaxUint32, 7, 8, 9, 10, 11)},
	}
}

// dirtyTold is what cut Applies are told, unlike all that was Dirty ahead of them.
const dirtyTold = 0x0404

// P9.2: the writes and flushes of Apply, each cut off by a fuse, and what each choice of survivors leaves, sector by sector.
func TestApplyOrder(t *testing.T) {
	for _, x := range cases() {
		n := someNode(t, x.l)
		ahead, s := sectors(t, n.Disk), told(t, n)
		all := applySteps(t, s, x.r, dirtyTold)
		for fuse := range len(all) + 3 {
			want := api.OK
			if fuse < len(all) {
				want = api.ErrDown
			}
			done := min(fuse, len(all))
			_, loose := behind(ahead, all, done, nil)
			for _, keep := range keeps(loose) {
				n := open(t, newDisk(t, ahead...))
				n.Disk.Fuse(fuse)
				if e := n.Apply(x.r, dirtyTold); e != want || n.Disk.Down() != (want != api.OK) || n.Disk.Loose() != loose {
					t.Fatalf("%v: fuse %d: error %d, %d loose, want %d", x.r, fuse, e, n.Disk.Loose(), loose)
				}
				n.Disk.Up(keep...)
				if left, _ := behind(ahead, all, done, keep); !slices.Equal(sectors(t, n.Disk), left) {
					t.Fatalf("%v: fuse %d: %v kept: %x, want %x", x.r, fuse, keep, sectors(t, n.Disk), left)
				}
			}
		}
	}
}

// P9.3: an Apply cut at each write and flush, behind each choice of survivors: Open has all blocks and the label as ahead of it, or as behind it, Dirty as ahead of it; as told where the label itself was kept.
func TestApplyCut(t *testing.T) {
	for _, x := range cases() {
		n := someNode(t, x.l)
		ahead, was := sectors(t, n.Disk), told(t, n)
		all := applySteps(t, was, x.r, dirtyTold)
		header, label := len(x.r.Puts)+1, 2*len(x.r.Puts)+4
		for fuse := range len(all) {
			_, loose := behind(ahead, all, fuse, nil)
			for _, keep := range keeps(loose) {
				n := open(t, newDisk(t, ahead...))
				n.Disk.Fuse(fuse)
				n.Apply(x.r, dirtyTold)
				n.Disk.Up(keep...)
				// The header is what makes the record last, and the label what makes it done.
				want := was
				kept := len(keep) > 0 && keep[0] == 1
				if fuse > header+1 || fuse == header+1 && kept {
					want = carriedOut(was, x.r, was.Dirty)
				}
				if fuse == label+1 && kept {
					want.Dirty = dirtyTold
				}
				again := open(t, n.Disk)
				if told(t, again) != want {
					t.Fatalf("%v: fuse %d, %v kept: %v, want %v", x.r, fuse, keep, told(t, again), want)
				}
				// What Open carried out lasts, and is not carried out once more.
				n.Disk.Up()
				n.Disk.Fuse(0)
				if now := told(t, open(t, n.Disk)); now != want {
					t.Fatalf("%v: fuse %d, %v kept: opened once more: %v, want %v", x.r, fuse, keep, now, want)
				}
			}
		}
	}
}

// P9.1: an Open that carries out what an Apply left, cut itself at each write and flush: the disk's error, and the sectors that the words say.
func TestOpenOrder(t *testing.T) {
	for _, x := range cases() {
		n := someNode(t, x.l)
		was := told(t, n)
		n.Disk.Fuse(len(x.r.Puts) + 3)
		if e := n.Apply(x.r, dirtyTold); e != api.ErrDown {
			t.Fatalf("error %d", e)
		}
		n.Disk.Up()
		ahead := sectors(t, n.Disk)
		all := carrySteps(was, x.r, was.Dirty)
		for fuse := range len(all) + 2 {
			done := min(fuse, len(all))
			_, loose := behind(ahead, all, done, nil)
			for _, keep := range keeps(loose) {
				d := newDisk(t, ahead...)
				d.Fuse(fuse)
				if fuse < len(all) {
					wantNoNode(t, d, api.ErrDown, "cut")
				} else {
					open(t, d)
				}
				if d.Loose() != loose {
					t.Fatalf("%v: fuse %d: %d loose, want %d", x.r, fuse, d.Loose(), loose)
				}
				d.Up(keep...)
				if left, _ := behind(ahead, all, done, keep); !slices.Equal(sectors(t, d), left) {
					t.Fatalf("%v: fuse %d: %v kept: %x, want %x", x.r, fuse, keep, sectors(t, d), left)
				}
				if now := told(t, open(t, d)); now != carriedOut(was, x.r, was.Dirty) {
					t.Fatalf("%v: fuse %d: %v kept: %v", x.r, fuse, keep, now)
				}
			}
		}
	}
}

// P9.1: a record in the log is carried out by Open just if it is later than the label.
func TestOpenLater(t *testing.T) {
	for _, x := range []struct {
		epoch, seq, e, s uint32
		later            bool
	}{
		{0, 0, 0, 0, false}, {0, 0, 0, 1, true}, {0, 0, 1, 0, true},
		{2, 4, 2, 4, false}, {2, 4, 2, 3, false}, {2, 4, 2, 5, true}, {2, 4, 1, 9, false}, {2, 4, 3, 0, true},
		{1, math.MaxUint32, 1, 0, false}, {math.MaxUint32, 0, 0, 9, false},
	} {
		n := open(t, New())
		l := api.Label{Epoch: x.epoch, Seq: x.seq, Next: 3, Dirty: 0x0101, Last: 0x0010}
		n.SetLabel(l)
		r := record(x.e, x.s, 3, 9, 0)
		wal.Put(n.Disk, 1, r)
		want := state{Label: l}
		if x.later {
			want = carriedOut(want, r, l.Dirty)
		} else {
			n.Disk.Fuse(0)
		}
		if now := told(t, open(t, n.Disk)); now != want || n.Disk.Down() || n.Disk.Loose() != 0 {
			t.Errorf("%v: %v, want %v", x, now, want)
		}
	}
}

// P9.1: what stands in the log's place and is no record is left alone.
func TestOpenNoRecord(t *testing.T) {
	six, _ := seal.Encode(0x57, []byte{9, 0, 0, 0, 9, 0, 0, 0, 6, 0, 1, 2, 3, 4, 5})
	none, _ := seal.Encode(0x57, []byte{9, 0, 0, 0, 9, 0, 0, 0, 0})
	far, _ := seal.Encode(0x57, []byte{9, 0, 0, 0, 9, 0, 0, 0, 1, 12})
	right, _ := seal.Encode(0x57, []byte{9, 0, 0, 0, 9, 0, 0, 0, 1, 11})
	wrong := right
	wrong[30] ^= 1
	for _, b := range []api.Block{six, none, far, wrong, label.Encode(api.Label{Epoch: 9}), {1}} {
		d := New()
		l := api.Label{Epoch: 1, Next: 1}
		open(t, d).SetLabel(l)
		d.Write(1, b)
		d.Flush()
		d.Fuse(0)
		if now := told(t, open(t, d)); now != (state{Label: l}) || d.Down() {
			t.Errorf("%x: %v", b, now)
		}
	}
	// The log begins at sector 1, and nowhere else.
	for _, i := range []int{2, 3, 6, 7, 18} {
		d := New()
		d.Write(i, right)
		d.Flush()
		d.Fuse(0)
		if now := open(t, d).Label(); now != (api.Label{}) || d.Down() {
			t.Errorf("sector %d: %v", i, now)
		}
	}
}

// P9.3: records by lot, each cut somewhere, the Open behind it as well: never but what was ahead of an Apply, or behind it.
func TestCutByLot(t *testing.T) {
	lot := rand.New(rand.NewSource(93))
	up := func(d *disk.Disk) {
		keep := make([]byte, lot.Intn(8))
		lot.Read(keep)
		d.Up(keep...)
	}
	seen := map[string]int{}
	for range 200 {
		n := someNode(t, api.Label{Epoch: 1, Seq: 15, Next: 16, Dirty: uint16(lot.Uint32())})
		for range 30 {
			was := told(t, n)
			r := record(was.Epoch, was.Seq+1, lot.Perm(12)[:1+lot.Intn(5)]...)
			if lot.Intn(4) == 0 {
				r.Epoch, r.Seq = r.Epoch+1, 0
			}
			dirty := uint16(lot.Uint32())
			n.Disk.Fuse(lot.Intn(20))
			e := n.Apply(r, dirty)
			if e != api.OK {
				seen["cut"]++
			}
			up(n.Disk)
			for n.Disk.Fuse(lot.Intn(10)); ; n.Disk.Fuse(lot.Intn(10)) {
				again, e := Open(n.Disk)
				if e == api.OK {
					n = again
					break
				}
				seen["cut again"]++
				up(n.Disk)
			}
			n.Disk.Fuse(-1)
			now := told(t, n)
			isOld, isNew := now.is(was, was.Dirty), now.is(carriedOut(was, r, dirty), was.Dirty, dirty)
			if isOld {
				seen["old"]++
			}
			if e == api.OK && now != carriedOut(was, r, dirty) || !isOld && !isNew {
				t.Fatalf("%v over %v: error %d: %v", r, was, e, now)
			}
		}
	}
	for _, what := range []string{"cut", "cut again", "old"} {
		if seen[what] < 100 {
			t.Error(seen)
		}
	}
}

// Rule 2: Apply changes nothing of the record, its spare room included, and keeps none of it.
func TestApplyChangesNothing(t *testing.T) {
	room := record(1, 1, 9, 3, 4, 5, 6, 7, 8).Puts
	ahead := slices.Clone(room)
	n := someNode(t, api.Label{Epoch: 1})
	for k := range 6 {
		want := told(t, n)
		r := wal.Record{Epoch: 1, Seq: uint32(k + 1), Puts: room[1 : 1+k]}
		if k > 0 {
			want = carriedOut(want, r, 5)
		}
		e := n.Apply(r, 5)
		if (e == api.OK) != (k > 0) || !slices.Equal(room, ahead) || len(r.Puts) != k {
			t.Errorf("%d puts: error %d, %v", k, e, room)
		}
		clear(room)
		if told(t, n) != want {
			t.Errorf("%d puts: %v, want %v", k, told(t, n), want)
		}
		copy(room, ahead)
	}
}

// Rule 2: the disk that is handed in is the node's own: what the one does the other one sees.
func TestDiskIsKept(t *testing.T) {
	d := New()
	n := open(t, d)
	if n.Disk != d {
		t.Error("another disk")
	}
	d.Write(10, api.Block{5})
	if b, e := n.Block(3); b != (api.Block{5}) || e != api.OK {
		t.Errorf("%x, error %d", b, e)
	}
	d.Fuse(0)
	if e := n.SetLabel(api.Label{}); e != api.ErrDown || !d.Down() {
		t.Errorf("error %d", e)
	}
}

// Rule 4: nodes know nothing of each other.
func TestApart(t *testing.T) {
	a, b := open(t, New()), open(t, New())
	for i := range 3 {
		if e := a.Apply(record(1, uint32(i+1), 3), 1); e != api.OK {
			t.Errorf("error %d", e)
		}
		if told(t, b) != (state{}) {
			t.Errorf("%v", told(t, b))
		}
	}
	copied := open(t, copyOf(t, a.Disk))
	if told(t, copied) != told(t, a) {
		t.Errorf("%v, want %v", told(t, copied), told(t, a))
	}
}
