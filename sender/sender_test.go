package sender_test

import (
	"math"
	"math/rand"
	"slices"
	"testing"

	"tollhouse/api"
	"tollhouse/packet"
	"tollhouse/sender"
)

// most is the greatest epoch and number.
const most = math.MaxUint32

// puts are such of those blocks.
func puts(at ...int) []api.Put {
	var all []api.Put
	for _, a := range at {
		all = append(all, api.Put{At: a, Data: api.Block{byte(a), 0xcc, 31: byte(len(at))}})
	}
	return all
}

// op and sync are packets of that number; a sync is of the first of those blocks.
func op(epoch, seq uint32, at ...int) api.Packet {
	return api.Packet{Kind: api.PktOp, Epoch: epoch, Seq: seq, Puts: puts(at...)}
}

func sync(epoch, seq uint32, at ...int) api.Packet {
	return api.Packet{Kind: api.PktSync, Epoch: epoch, Seq: seq, Puts: puts(at...)}
}

// ack is the answer that p is done.
func ack(p api.Packet) api.Packet {
	return api.Packet{Kind: api.PktAck, Epoch: p.Epoch, Seq: p.Seq}
}

// wantSent sends p.
func wantSent(t *testing.T, s *sender.Sender, p api.Packet) {
	t.Helper()
	if e := s.Send(p); e != api.OK {
		t.Errorf("%v: error %d", p, e)
	}
}

// wantNotSent holds Send against that error.
func wantNotSent(t *testing.T, s *sender.Sender, p api.Packet, want api.Errno) {
	t.Helper()
	if e := s.Send(p); e != want {
		t.Errorf("%v: error %d, want %d", p, e, want)
	}
}

// none is what Out and Early tell where there is none.
var none api.Packet

// wantHas holds Out and Early against those packets; none is none.
func wantHas(t *testing.T, s *sender.Sender, out, early api.Packet) {
	t.Helper()
	if got, ok := s.Out(); ok != (out.Kind != 0) || !packet.Same(got, out) {
		t.Errorf("out: %v, %t, want %v", got, ok, out)
	}
	if got, ok := s.Early(); ok != (early.Kind != 0) || !packet.Same(got, early) {
		t.Errorf("early: %v, %t, want %v", got, ok, early)
	}
}

// wantAcked acks p.
func wantAcked(t *testing.T, s *sender.Sender, p api.Packet, touched bool) {
	t.Helper()
	if got, ok := s.Acked(ack(p)); !ok || got != touched {
		t.Errorf("%v: touched %t, %t, want touched %t", p, got, ok, touched)
	}
}

// wantNotAcked holds Acked of a against false.
func wantNotAcked(t *testing.T, s *sender.Sender, a api.Packet) {
	t.Helper()
	if touched, ok := s.Acked(a); ok || touched {
		t.Errorf("%v: touched %t, %t", a, touched, ok)
	}
}

// wantMissed holds Missed against those numbers, one behind the other.
func wantMissed(t *testing.T, s *sender.Sender, want ...int) {
	t.Helper()
	for _, n := range want {
		if got := s.Missed(); got != n {
			t.Errorf("missed %d, want %d", got, n)
		}
	}
}

// out is a sender that has p out, and no early one.
func out(t *testing.T, p api.Packet) *sender.Sender {
	t.Helper()
	s := &sender.Sender{}
	wantSent(t, s, p)
	return s
}

// both is a sender that has p out, and early is the early one.
func both(t *testing.T, p, early api.Packet) *sender.Sender {
	t.Helper()
	s := out(t, early)
	s.Stop(true)
	wantSent(t, s, p)
	wantHas(t, s, p, early)
	return s
}

// wrongs are packets that have no bytes.
func wrongs() []api.Packet {
	return []api.Packet{
		{}, {Puts: puts(1)}, {Kind: 5}, {Kind: 5, Puts: puts(1)}, {Kind: -1, Puts: puts(1)}, {Kind: 257, Puts: puts(1)}, {Kind: 1 << 32, Puts: puts(1)}, {Kind: math.MaxInt, Puts: puts(1)}, {Kind: math.MinInt},
		op(1, 1), sync(1, 1), op(1, 1, 12), op(1, 1, -1), sync(1, 1, 12), op(1, 1, 3, 3), sync(1, 1, 2, 3, 2), op(1, 1, 0, 1, 2, 3, 4, 5), op(1, 1, 1, 2, 300), op(1, 1, math.MinInt),
		{Kind: api.PktAck, Puts: puts(1)}, {Kind: api.PktStale, Puts: puts(1)},
	}
}

// answers are packets that have bytes, and are none that a sender sends.
func answers() []api.Packet {
	return []api.Packet{{Kind: api.PktAck}, {Kind: api.PktStale}, {Kind: api.PktAck, Epoch: 1, Seq: 5}, {Kind: api.PktStale, Epoch: most, Seq: most}}
}

// rights are packets that may be out.
func rights() []api.Packet {
	return []api.Packet{op(0, 0, 0), op(1, 1, 3), op(1, 2, 4, 3, 2, 1, 0), op(most, most, 11), sync(0, 0, 0), sync(1, 3, 7), sync(2, 1, 11, 5), sync(most, 0, 1, 2, 3, 4, 5)}
}

// P24.1: a Sender that is zero has nothing.
func TestZero(t *testing.T) {
	var s sender.Sender
	for range 2 {
		wantHas(t, &s, none, none)
		wantMissed(t, &s, 0, 0)
		wantNotAcked(t, &s, none)
		wantNotAcked(t, &s, api.Packet{Kind: api.PktAck})
		s.Touch()
		s.Touch(puts(0, 1, 2)...)
		s.Stop(true)
		s.Stop(false)
	}
	wantSent(t, &s, sync(1, 1, 0))
	wantMissed(t, &s, 1)
	wantAcked(t, &s, sync(1, 1, 0), false)
}

// P24.1: of nil: ErrArg, false, 0; nothing is done.
func TestNil(t *testing.T) {
	var s *sender.Sender
	for _, p := range slices.Concat(rights(), wrongs(), answers()) {
		wantNotSent(t, s, p, api.ErrArg)
		wantNotAcked(t, s, ack(p))
	}
	wantHas(t, s, none, none)
	wantMissed(t, s, 0, 0)
	s.Touch(puts(1)...)
	s.Stop(true)
	s.Stop(false)
}

// P24.1: each packet that may be out is out, with an early one and without; what is out does not change what is early.
func TestSend(t *testing.T) {
	for _, p := range rights() {
		wantHas(t, out(t, p), p, none)
		for _, early := range rights() {
			both(t, p, early)
		}
	}
}

// P24.1: packets without bytes, and answers: ErrArg, with one out as well; then nothing changes.
func TestSendArg(t *testing.T) {
	for _, p := range slices.Concat(wrongs(), answers()) {
		s := &sender.Sender{}
		wantNotSent(t, s, p, api.ErrArg)
		wantHas(t, s, none, none)
		s = both(t, sync(1, 2, 5), op(1, 1, 5))
		wantMissed(t, s, 1)
		s.Touch(puts(5)...)
		wantNotSent(t, s, p, api.ErrArg)
		wantHas(t, s, sync(1, 2, 5), op(1, 1, 5))
		wantMissed(t, s, 2)
		wantAcked(t, s, sync(1, 2, 5), true)
	}
}

// P24.1, P24.3: one packet is out at most: ErrQueue, and the one that is out stays, waits and touched as it is.
func TestSendQueue(t *testing.T) {
	for _, p := range rights() {
		s := both(t, sync(1, 2, 5), op(1, 1, 5))
		wantMissed(t, s, 1, 2)
		s.Touch(puts(5)...)
		wantNotSent(t, s, p, api.ErrQueue)
		wantNotSent(t, s, sync(1, 2, 5), api.ErrQueue)
		wantHas(t, s, sync(1, 2, 5), op(1, 1, 5))
		wantMissed(t, s, 3)
		wantAcked(t, s, sync(1, 2, 5), true)
		wantSent(t, s, p)
	}
}

// P24.1: one more slot each time, from 1 on; anew behind each Send, whatever let the last one go.
func TestMissed(t *testing.T) {
	s := &sender.Sender{}
	wantMissed(t, s, 0, 0, 0)
	for _, gone := range []func(p api.Packet){func(p api.Packet) { wantAcked(t, s, p, false) }, func(api.Packet) { s.Stop(true) }, func(api.Packet) { s.Stop(false) }} {
		for _, p := range rights() {
			wantSent(t, s, p)
			wantMissed(t, s, 1, 2, 3, 4, 5, 6)
			gone(p)
			wantMissed(t, s, 0, 0)
		}
	}
	// Nothing else is a slot.
	s = out(t, op(1, 1, 3))
	wantMissed(t, s, 1)
	s.Touch(puts(3)...)
	wantNotAcked(t, s, ack(op(1, 2, 3)))
	wantNotSent(t, s, op(1, 2, 3), api.ErrQueue)
	wantHas(t, s, op(1, 1, 3), none)
	wantMissed(t, s, 2)
}

// P24.1: a sync is touched by a put of its first put's block, and by no other one; told once.
func TestTouch(t *testing.T) {
	for _, x := range []struct {
		block, beside int
	}{{0, 1}, {5, 0}, {11, 10}} {
		p := sync(1, 7, x.block, x.beside)
		for _, y := range []struct {
			at   []int
			want bool
		}{
			{nil, false}, {[]int{x.beside}, false}, {[]int{x.block}, true},
			{[]int{3, x.block}, true}, {[]int{x.block, 3}, true}, {[]int{3, 4, x.block, 6, 2}, true}, {[]int{3, 4, x.beside, 6, 2}, false},
			{[]int{-1}, false}, {[]int{12}, false}, {[]int{12, x.block, -1}, true}, {[]int{x.block + 16, x.block - 16, x.block + 32, x.block + 64, x.block + 256, x.block + 1<<32}, false}, {[]int{math.MaxInt, math.MinInt}, false},
			{[]int{x.block, x.block}, true}, {[]int{7, 7, 7, 7, 7, 7, 7, x.block}, true},
		} {
			s := out(t, p)
			s.Touch(puts(y.at...)...)
			wantHas(t, s, p, none)
			wantAcked(t, s, p, y.want)
			wantNotAcked(t, s, ack(p))
			// The next one is untouched, be it the same.
			wantSent(t, s, p)
			wantAcked(t, s, p, false)
		}
	}
	s := out(t, sync(1, 7, 5))
	s.Touch(puts(5)...)
	s.Touch(puts(6)...)
	s.Touch()
	wantMissed(t, s, 1)
	wantNotAcked(t, s, ack(sync(1, 6, 5)))
	wantAcked(t, s, sync(1, 7, 5), true)
}

// P24.1: an op is not touched, nor is what is not out yet.
func TestNotTouched(t *testing.T) {
	s := &sender.Sender{}
	s.Touch(puts(5)...)
	wantSent(t, s, sync(1, 1, 5))
	wantAcked(t, s, sync(1, 1, 5), false)
	s.Touch(puts(5)...)
	wantSent(t, s, op(1, 2, 5))
	s.Touch(puts(5)...)
	wantAcked(t, s, op(1, 2, 5), false)
	wantSent(t, s, sync(1, 3, 5))
	s.Touch(puts(5)...)
	s.Stop(true)
	wantSent(t, s, sync(1, 4, 5))
	wantAcked(t, s, sync(1, 4, 5), false)
	wantSent(t, s, sync(1, 5, 5))
	s.Touch(puts(5)...)
	s.Stop(false)
	s.Touch(puts(5)...)
	wantSent(t, s, sync(1, 6, 5))
	wantAcked(t, s, sync(1, 6, 5), false)
}

// P24.1: just the ack of what is out: it is the early one then, and none is out.
func TestAcked(t *testing.T) {
	for _, p := range []api.Packet{op(3, 8, 1, 2), sync(3, 8, 1), op(most, 0, 1), sync(0, most, 0)} {
		early := op(1, 1, 9)
		s := both(t, p, early)
		for _, a := range []api.Packet{
			none, {Epoch: p.Epoch, Seq: p.Seq}, p, {Kind: api.PktStale, Epoch: p.Epoch, Seq: p.Seq}, {Kind: api.PktOp, Epoch: p.Epoch, Seq: p.Seq}, {Kind: api.PktSync, Epoch: p.Epoch, Seq: p.Seq}, {Kind: -api.PktAck, Epoch: p.Epoch, Seq: p.Seq}, {Kind: 259, Epoch: p.Epoch, Seq: p.Seq},
			{Kind: api.PktAck, Epoch: p.Epoch + 1, Seq: p.Seq}, {Kind: api.PktAck, Epoch: p.Epoch - 1, Seq: p.Seq}, {Kind: api.PktAck, Epoch: p.Epoch, Seq: p.Seq + 1}, {Kind: api.PktAck, Epoch: p.Epoch, Seq: p.Seq - 1}, {Kind: api.PktAck, Epoch: p.Seq, Seq: p.Epoch}, ack(early),
		} {
			wantNotAcked(t, s, a)
			wantHas(t, s, p, early)
		}
		wantAcked(t, s, p, false)
		wantHas(t, s, none, p)
		wantNotAcked(t, s, ack(p))
		wantNotAcked(t, s, ack(early))
		wantNotAcked(t, s, api.Packet{Kind: api.PktAck})
		wantHas(t, s, none, p)
	}
}

// P24.1: Stop with early and without, with one out and without, with an early one and without.
func TestStop(t *testing.T) {
	first, second := op(1, 1, 3), sync(1, 2, 4)
	s := out(t, first)
	s.Stop(true)
	wantHas(t, s, none, first)
	s.Stop(true)
	wantHas(t, s, none, first)
	wantSent(t, s, second)
	s.Stop(true)
	wantHas(t, s, none, second)
	s.Stop(false)
	wantHas(t, s, none, none)
	s.Stop(true)
	wantHas(t, s, none, none)

	s = both(t, second, first)
	s.Stop(false)
	wantHas(t, s, none, none)
	wantNotAcked(t, s, ack(second))
	s = out(t, first)
	s.Stop(false)
	wantHas(t, s, none, none)
	wantSent(t, s, second)
	wantHas(t, s, second, none)
}

// P24.2: the chapter's example, and each number: the least of the blocks but 0, then 0; bits beyond the blocks are none.
func TestPick(t *testing.T) {
	if i, ok := sender.Pick(3); i != 1 || !ok {
		t.Errorf("3: %d, %t", i, ok)
	}
	for x, want := range map[uint16]int{1: 0, 2: 1, 4: 2, 8: 3, 16: 4, 32: 5, 64: 6, 128: 7, 256: 8, 512: 9, 1024: 10, 2048: 11, 0x0801: 11, 0x0fff: 1, 0xffff: 1, 0xf001: 0, 0x0ffc: 2, 0xf800: 11} {
		if i, ok := sender.Pick(x); i != want || !ok {
			t.Errorf("%04x: %d, %t, want %d", x, i, ok, want)
		}
	}
	for n := range 1 << 16 {
		dirty, want, ok := uint16(n), 0, false
		for _, i := range []int{0, 11, 10, 9, 8, 7, 6, 5, 4, 3, 2, 1} {
			if dirty&(1<<i) != 0 {
				want, ok = i, true
			}
		}
		if got, is := sender.Pick(dirty); got != want || is != ok {
			t.Errorf("%04x: %d, %t, want %d, %t", dirty, got, is, want, ok)
		}
	}
}

// P24.3: by lot: each call, held against the chapter's words told by lists.
func TestByLot(t *testing.T) {
	lot := rand.New(rand.NewSource(24))
	s := &sender.Sender{}
	var is, early []api.Packet
	waits, touched := 0, false
	seen := map[string]int{}
	for range 30000 {
		p := op(1, uint32(lot.Intn(3)), lot.Perm(12)[:1+lot.Intn(5)]...)
		p.Kind = 1 + lot.Intn(2)
		switch lot.Intn(7) {
		case 0, 1:
			if len(is) > 0 {
				wantNotSent(t, s, p, api.ErrQueue)
				seen["full"]++
				break
			}
			wantSent(t, s, p)
			is, waits, touched = []api.Packet{p}, 0, false
		case 2:
			want := 0
			if len(is) > 0 {
				waits++
				want = waits
			}
			wantMissed(t, s, want)
		case 3:
			s.Touch(p.Puts...)
			if len(is) > 0 && is[0].Kind == api.PktSync && slices.ContainsFunc(p.Puts, func(x api.Put) bool { return x.At == is[0].Puts[0].At }) {
				touched = true
			}
		case 4, 5:
			if len(is) == 0 || p.Seq != is[0].Seq {
				wantNotAcked(t, s, ack(p))
				break
			}
			wantAcked(t, s, p, touched)
			if touched {
				seen["touched"]++
			}
			early, is = is, nil
			seen["acked"]++
		case 6:
			e := lot.Intn(2) == 0
			s.Stop(e)
			if !e {
				early = nil
			} else if len(is) > 0 {
				early = is
			}
			is = nil
		}
		wantHas(t, s, append(is, none)[0], append(early, none)[0])
	}
	for _, what := range []string{"full", "touched", "acked"} {
		if seen[what] < 100 {
			t.Error(seen)
		}
	}
}

// Rule 2: the packet that is handed in is neither changed, its spare room included, nor kept.
func TestSendKeepsNothing(t *testing.T) {
	p := sync(1, 1, 5, 6, 7, 8, 9)
	room := p.Puts
	p.Puts = room[:2]
	s := out(t, p)
	s.Touch(room[1:]...)
	if !slices.Equal(room, puts(5, 6, 7, 8, 9)) {
		t.Error(room)
	}
	for k := range room {
		room[k] = api.Put{At: 3}
	}
	want := sync(1, 1, 5, 6, 7, 8, 9)
	want.Puts = want.Puts[:2]
	wantHas(t, s, want, none)
	s.Touch(puts(3)...)
	wantAcked(t, s, want, false)
	wantHas(t, s, none, want)
}

// Rule 2: packets that were told may be changed, their puts' spare room too; no two of them share any.
func TestOutIsNew(t *testing.T) {
	p, q := sync(1, 2, 5, 6), op(1, 1, 3, 4)
	s := both(t, p, q)
	turn := func(l []api.Put) {
		l = l[:cap(l)]
		for k := range l {
			l[k] = api.Put{At: 9}
		}
	}
	a, _ := s.Out()
	b, _ := s.Out()
	c, _ := s.Early()
	d, _ := s.Early()
	turn(a.Puts)
	turn(c.Puts)
	if !packet.Same(b, p) || !packet.Same(d, q) {
		t.Errorf("%v, %v", b, d)
	}
	wantHas(t, s, p, q)
	s.Touch(puts(9)...)
	s.Stop(true)
	wantHas(t, s, none, p)
	if !packet.Same(b, p) {
		t.Errorf("%v", b)
	}
}

// Two senders are nothing to each other.
func TestApart(t *testing.T) {
	a, b := out(t, op(1, 1, 3)), out(t, op(2, 2, 4))
	wantMissed(t, a, 1, 2)
	wantMissed(t, b, 1)
	wantAcked(t, a, op(1, 1, 3), false)
	wantHas(t, a, none, op(1, 1, 3))
	wantHas(t, b, op(2, 2, 4), none)
}
