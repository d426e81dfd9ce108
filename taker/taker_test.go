package taker_test

import (
	"math"
	"math/rand"
	"slices"
	"testing"

	"tollhouse/api"
	"tollhouse/disk"
	"tollhouse/node"
	"tollhouse/packet"
	"tollhouse/taker"
	"tollhouse/wal"
)

// most is the greatest epoch and number.
const most = math.MaxUint32

// made counts the blocks that were made, so that no two are alike.
var made uint32

// aBlock is one that is unlike all others.
func aBlock() api.Block {
	made++
	b := api.Block(slices.Repeat([]byte{0x5d}, api.Size))
	for i := range 4 {
		b[i] = byte(made >> (8 * i))
	}
	return b
}

// sent is a packet of that kind and number, of puts of those blocks, no two of the same Data.
func sent(kind int, epoch, seq uint32, at ...int) api.Packet {
	p := api.Packet{Kind: kind, Epoch: epoch, Seq: seq}
	for _, a := range at {
		p.Puts = append(p.Puts, api.Put{At: a, Data: aBlock()})
	}
	return p
}

// bytesOf are the packet's.
func bytesOf(t *testing.T, p api.Packet) []byte {
	t.Helper()
	b, e := packet.Encode(p)
	if e != api.OK {
		t.Fatalf("%v: error %d", p, e)
	}
	return b
}

// ack is the answer that p is done.
func ack(p api.Packet) api.Packet {
	return api.Packet{Kind: api.PktAck, Epoch: p.Epoch, Seq: p.Seq}
}

// stale is the answer that p is too old for a label of that epoch.
func stale(p api.Packet, epoch uint32) api.Packet {
	return api.Packet{Kind: api.PktStale, Epoch: epoch, Seq: p.Seq}
}

// opened is the node of d.
func opened(t *testing.T, d *disk.Disk) *node.Node {
	t.Helper()
	n, e := node.Open(d)
	if e != api.OK || n == nil {
		t.Fatalf("no node: error %d", e)
	}
	return n
}

// backup is a node of that label, whose blocks are no two alike.
func backup(t *testing.T, l api.Label) *node.Node {
	t.Helper()
	n := opened(t, node.New())
	for k, at := range [][]int{{0, 1, 2, 3, 4}, {5, 6, 7, 8, 9}, {10, 11}} {
		if e := n.Apply(wal.Record{Seq: uint32(k + 1), Puts: sent(api.PktOp, 0, 0, at...).Puts}, 0); e != api.OK {
			t.Fatalf("apply: error %d", e)
		}
	}
	if e := n.SetLabel(l); e != api.OK {
		t.Fatalf("label: error %d", e)
	}
	return n
}

// state is what a node tells: its label, and its blocks.
type state struct {
	api.Label
	blocks [api.Blocks]api.Block
}

// told is what n tells.
func told(t *testing.T, n *node.Node) state {
	t.Helper()
	s := state{Label: n.Label()}
	for i := range s.blocks {
		b, e := n.Block(i)
		if e != api.OK {
			t.Fatalf("block %d: error %d", i, e)
		}
		s.blocks[i] = b
	}
	return s
}

// behind is s behind the packet: the blocks, the number, Dirty as it was.
func behind(s state, p api.Packet) state {
	s.Epoch, s.Seq, s.Next, s.Last = p.Epoch, p.Seq, max(s.Next, p.Seq+1), 0
	for _, put := range p.Puts {
		s.blocks[put.At] = put.Data
		s.Last |= 1 << put.At
	}
	return s
}

// want holds Take against that answer, and what stands on the node then.
func want(t *testing.T, n *node.Node, p, answer api.Packet, then state) {
	t.Helper()
	got, e := taker.Take(n, bytesOf(t, p))
	if e != api.OK || !packet.Same(got, answer) || len(got.Puts) != 0 {
		t.Errorf("%d of %d, %d: %v, error %d, want %v", p.Kind, p.Epoch, p.Seq, got, e, answer)
	}
	if now := told(t, n); now != then || n.Loose() != 0 {
		t.Errorf("%d of %d, %d: %v, want %v", p.Kind, p.Epoch, p.Seq, now.Label, then.Label)
	}
}

// wantIdle is want, where nothing may be written.
func wantIdle(t *testing.T, n *node.Node, p, answer api.Packet) {
	t.Helper()
	n.Fuse(0)
	want(t, n, p, answer, told(t, n))
	if n.Down() {
		t.Errorf("%d of %d, %d: it is written", p.Kind, p.Epoch, p.Seq)
	}
	n.Fuse(-1)
}

// wantError holds Take against that error, and nothing else.
func wantError(t *testing.T, n *node.Node, b []byte, want api.Errno) {
	t.Helper()
	if got, e := taker.Take(n, b); e != want || !packet.Same(got, api.Packet{}) {
		t.Errorf("%x: %v, error %d, want error %d", b, got, e, want)
	}
}

// wrongs are bytes that are no PktOp's and no PktSync's.
func wrongs(t *testing.T) [][]byte {
	t.Helper()
	all := [][]byte{nil, {}, {1}, make([]byte, 12), make([]byte, 45), make([]byte, 1000), slices.Repeat([]byte{0xff}, 45)}
	for _, epoch := range []uint32{0, 4, 5, 6, most} {
		for _, seq := range []uint32{0, 8, 9, 10, most} {
			all = append(all, bytesOf(t, sent(api.PktAck, epoch, seq)), bytesOf(t, sent(api.PktStale, epoch, seq)))
		}
	}
	right := bytesOf(t, sent(api.PktOp, 5, 10, 3))
	for i := range right {
		b := slices.Clone(right)
		b[i] ^= 0x20
		all = append(all, b, right[:i])
	}
	return append(all, append(slices.Clone(right), 0), append([]byte{0}, right...), append(slices.Clone(right), right...))
}

// P22.1: without a node: ErrArg, whatever the bytes are.
func TestNoNode(t *testing.T) {
	wantError(t, nil, bytesOf(t, sent(api.PktOp, 1, 1, 3)), api.ErrArg)
	wantError(t, nil, bytesOf(t, sent(api.PktSync, 1, 1, 3)), api.ErrArg)
	for _, b := range wrongs(t) {
		wantError(t, nil, b, api.ErrArg)
	}
}

// P22.1: bytes that are no packet's, and those of answers: ErrForm, whatever their number is; nothing is written.
func TestForm(t *testing.T) {
	n := backup(t, api.Label{Epoch: 5, Seq: 9, Next: 10, Dirty: 6})
	ahead := told(t, n)
	n.Fuse(0)
	for _, b := range wrongs(t) {
		wantError(t, n, b, api.ErrForm)
	}
	if n.Down() || told(t, n) != ahead {
		t.Error("written")
	}
}

// P22.1: each place of a packet's number below, at and above the label's: what is told, and what is on the disk then.
func TestNumbers(t *testing.T) {
	for _, x := range []struct {
		epoch, seq uint32 // of the label
		e, s       uint32 // of the packet
		want       int
	}{
		{5, 9, 4, 8, api.PktStale}, {5, 9, 4, 9, api.PktStale}, {5, 9, 4, 10, api.PktStale}, {5, 9, 0, 0, api.PktStale}, {5, 9, 4, most, api.PktStale}, {5, 9, 0, most, api.PktStale},
		{5, 9, 5, 0, api.PktStale}, {5, 9, 5, 8, api.PktStale},
		{5, 9, 5, 9, api.PktAck},
		{5, 9, 5, 10, api.PktOp}, {5, 9, 5, 11, api.PktOp}, {5, 9, 5, most - 1, api.PktOp},
		{5, 9, 6, 0, api.PktOp}, {5, 9, 6, 8, api.PktOp}, {5, 9, 6, 9, api.PktOp}, {5, 9, 6, 10, api.PktOp}, {5, 9, most, 0, api.PktOp},
		{0, 0, 0, 0, api.PktAck}, {0, 0, 0, 1, api.PktOp}, {0, 0, 1, 0, api.PktOp}, {1, 0, 0, 1, api.PktStale}, {1, 0, 1, 0, api.PktAck}, {1, 0, 1, 1, api.PktOp},
		{most, 3, 1, 3, api.PktStale}, {most, 3, most, 2, api.PktStale}, {most, 3, most, 3, api.PktAck}, {most, 3, most, 4, api.PktOp},
	} {
		for _, kind := range []int{api.PktOp, api.PktSync} {
			for _, at := range [][]int{{0}, {11, 3}, {1, 2, 4, 8, 0}} {
				n := backup(t, api.Label{Epoch: x.epoch, Seq: x.seq, Next: 7, Dirty: 0x0812, Last: 0x0041})
				p := sent(kind, x.e, x.s, at...)
				switch x.want {
				case api.PktStale:
					wantIdle(t, n, p, stale(p, x.epoch))
				case api.PktAck:
					wantIdle(t, n, p, ack(p))
				default:
					want(t, n, p, ack(p), behind(told(t, n), p))
					// What was told lasts, whatever the disk loses.
					then := told(t, n)
					n.Up()
					if again := told(t, opened(t, n.Disk)); again != then {
						t.Errorf("opened: %v, want %v", again.Label, then.Label)
					}
				}
			}
		}
	}
}

// P22.1: what is done is done as node.Apply of it does it, with Dirty as it is: the same sectors, the same writes and flushes.
func TestIsApply(t *testing.T) {
	for _, dirty := range []uint16{0, 1, 0x0800, 0x0fff, 0xffff} {
		l := api.Label{Epoch: 2, Seq: 20, Next: 30, Dirty: dirty, Last: 3}
		p := sent(api.PktSync, 2, 25, 5, 0, 11)
		for fuse := range 16 {
			taken, applied := opened(t, node.New()), opened(t, node.New())
			taken.SetLabel(l)
			applied.SetLabel(l)
			taken.Fuse(fuse)
			applied.Fuse(fuse)
			got, e := taker.Take(taken, bytesOf(t, p))
			want := applied.Apply(wal.Record{Epoch: 2, Seq: 25, Puts: p.Puts}, dirty)
			if e != want || e != api.OK && !packet.Same(got, api.Packet{}) || taken.Loose() != applied.Loose() || taken.Down() != applied.Down() {
				t.Errorf("fuse %d: %v, error %d, want %d", fuse, got, e, want)
			}
			taken.Up(1, 0, 1)
			applied.Up(1, 0, 1)
			for i := range taken.Len() {
				a, _ := taken.Read(i)
				b, _ := applied.Read(i)
				if a != b {
					t.Errorf("fuse %d: sector %d: %x, want %x", fuse, i, a, b)
				}
			}
		}
	}
}

// P22.1: a disk that is down: its error where something would be done; what is told without the disk is told.
func TestDown(t *testing.T) {
	n := backup(t, api.Label{Epoch: 5, Seq: 9, Next: 10})
	n.Fuse(0)
	n.Flush()
	wantError(t, n, bytesOf(t, sent(api.PktOp, 5, 10, 3)), api.ErrDown)
	wantError(t, n, bytesOf(t, sent(api.PktSync, 6, 0, 3)), api.ErrDown)
	wantError(t, n, bytesOf(t, sent(api.PktAck, 6, 0)), api.ErrForm)
	if got, e := taker.Take(n, bytesOf(t, sent(api.PktOp, 4, 10, 3))); e != api.OK || got.Kind != api.PktStale {
		t.Errorf("%v, error %d", got, e)
	}
}

// P22.2: the chapter's example: the same packet twice, and far more often: acks, once done.
func TestTwice(t *testing.T) {
	for _, kind := range []int{api.PktOp, api.PktSync} {
		n := backup(t, api.Label{Epoch: 1, Seq: 4, Next: 5, Dirty: 1})
		p := sent(kind, 1, 5, 3, 7)
		want(t, n, p, ack(p), behind(told(t, n), p))
		for range 5 {
			wantIdle(t, n, p, ack(p))
		}
		n = opened(t, n.Disk)
		wantIdle(t, n, p, ack(p))
		// Only its number tells that it is the same one: what it says does not matter any more.
		wantIdle(t, n, sent(kind, 1, 5, 9, 10), ack(p))
	}
}

// P22.2: a packet that comes late, behind a later one, is not done, the first time and again.
func TestLate(t *testing.T) {
	n := backup(t, api.Label{Epoch: 1, Seq: 4, Next: 5})
	first, second, third := sent(api.PktOp, 1, 5, 3), sent(api.PktSync, 1, 6, 3, 4), sent(api.PktOp, 2, 1, 4)
	want(t, n, second, ack(second), behind(told(t, n), second))
	wantIdle(t, n, first, stale(first, 1))
	wantIdle(t, n, second, ack(second))
	want(t, n, third, ack(third), behind(told(t, n), third))
	for range 2 {
		wantIdle(t, n, first, stale(first, 2))
		wantIdle(t, n, second, stale(second, 2))
		wantIdle(t, n, third, ack(third))
	}
}

// keeps are all choices of which of n loose writes survive.
func keeps(n int) [][]byte {
	var all [][]byte
	for bits := range 1 << n {
		keep := make([]byte, n)
		for k := range keep {
			keep[k] = byte(bits >> k & 1)
		}
		all = append(all, keep)
	}
	return all
}

// P22.2: a fuse at each write and flush, and each choice of survivors: what was acked is there behind the Up, what was not is there wholly or not at all; and the packet again, behind the Up, is acked, done once.
func TestCut(t *testing.T) {
	for _, at := range [][]int{{3}, {0, 11, 5}, {4, 3, 2, 1, 0}} {
		steps := 2*len(at) + 6
		for fuse := range steps + 2 {
			for _, keep := range keeps(len(at)) {
				n := backup(t, api.Label{Epoch: 1, Seq: 4, Next: 5, Dirty: 0x0101})
				was, p := told(t, n), sent(api.PktOp, 1, 6, at...)
				done := behind(was, p)
				n.Fuse(fuse)
				got, e := taker.Take(n, bytesOf(t, p))
				if fuse < steps && (e != api.ErrDown || !packet.Same(got, api.Packet{})) || fuse >= steps && (e != api.OK || !packet.Same(got, ack(p))) {
					t.Fatalf("fuse %d: %v, error %d", fuse, got, e)
				}
				n.Up(keep...)
				n = opened(t, n.Disk)
				now := told(t, n)
				if e == api.OK && now != done || now != done && now != was {
					t.Fatalf("fuse %d, %v kept: %v", fuse, keep, now.Label)
				}
				want(t, n, p, ack(p), done)
				wantIdle(t, n, p, ack(p))
			}
		}
	}
}

// P22.2: by lot: packets new, again and late, fuses and crashes: what is acked is there behind any Up, and no packet is done twice.
func TestByLot(t *testing.T) {
	lot := rand.New(rand.NewSource(22))
	seen := map[string]int{}
	for range 60 {
		n := backup(t, api.Label{Epoch: 1, Seq: 3, Next: 4, Dirty: uint16(lot.Intn(1 << 12))})
		now := told(t, n)
		all := []api.Packet{sent(api.PktOp, 1, 3, 1)}
		for range 100 {
			p := all[lot.Intn(len(all))]
			if lot.Intn(2) == 0 {
				last := all[len(all)-1]
				p = sent(1+lot.Intn(2), last.Epoch, last.Seq+1+uint32(lot.Intn(2)), lot.Perm(12)[:1+lot.Intn(5)]...)
				if lot.Intn(6) == 0 {
					p.Epoch, p.Seq = p.Epoch+1, uint32(lot.Intn(3))
				}
				all = append(all, p)
			}
			later := p.Epoch > now.Epoch || p.Epoch == now.Epoch && p.Seq > now.Seq
			if lot.Intn(3) == 0 {
				n.Fuse(lot.Intn(20))
			}
			got, e := taker.Take(n, bytesOf(t, p))
			then := now
			if later {
				then = behind(now, p)
			}
			switch {
			case later && e == api.ErrDown:
				seen["cut"]++
			case later || p.Epoch == now.Epoch && p.Seq == now.Seq:
				seen["ack"]++
				if now = then; e != api.OK || !packet.Same(got, ack(p)) {
					t.Fatalf("%v, error %d, want an ack", got, e)
				}
			default:
				seen["stale"]++
				if e != api.OK || !packet.Same(got, stale(p, now.Epoch)) {
					t.Fatalf("%v, error %d, want that it is stale", got, e)
				}
			}
			if n.Down() || lot.Intn(8) == 0 {
				keep := make([]byte, lot.Intn(8))
				lot.Read(keep)
				n.Up(keep...)
				n = opened(t, n.Disk)
			}
			if s := told(t, n); s != now && s != then {
				t.Fatalf("%v, want %v or %v", s.Label, now.Label, then.Label)
			}
			now = told(t, n)
			n.Fuse(-1)
		}
	}
	for _, what := range []string{"cut", "ack", "stale"} {
		if seen[what] < 200 {
			t.Error(seen)
		}
	}
}

// Rule 2: the bytes that are handed in are not changed, their spare room included, and not kept.
func TestBytesStay(t *testing.T) {
	n := backup(t, api.Label{Epoch: 1, Seq: 4, Next: 5})
	p := sent(api.PktOp, 1, 5, 3, 0)
	room := append(bytesOf(t, p), 7, 7, 7, 7)
	ahead := slices.Clone(room)
	b := room[: len(room)-4 : len(room)]
	was := told(t, n)
	if got, e := taker.Take(n, b); e != api.OK || !packet.Same(got, ack(p)) || !slices.Equal(room, ahead) {
		t.Errorf("%v, error %d, %x", got, e, room)
	}
	clear(room)
	if told(t, n) != behind(was, p) {
		t.Errorf("%v", told(t, n).Label)
	}
}
