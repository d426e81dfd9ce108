package packet_test

import (
	"bytes"
	"encoding/hex"
	"math"
	"math/rand"
	"slices"
	"testing"

	"tollhouse/api"
	"tollhouse/crc"
	"tollhouse/packet"
)

// blockFrom is a block whose bytes count up from that one.
func blockFrom(first byte) api.Block {
	var b api.Block
	for i := range b {
		b[i] = first + byte(i)
	}
	return b
}

// puts are such of those blocks, no two of the same Data.
func puts(at ...int) []api.Put {
	var all []api.Put
	for k, a := range at {
		all = append(all, api.Put{At: a, Data: blockFrom(byte(40*k + 1))})
	}
	return all
}

// somePackets are such as may be, of each kind.
func somePackets() []api.Packet {
	return []api.Packet{
		{Kind: api.PktAck},
		{Kind: api.PktAck, Epoch: 0x04030201, Seq: 0x08070605},
		{Kind: api.PktStale, Epoch: 2, Seq: 1},
		{Kind: api.PktStale, Epoch: math.MaxUint32, Seq: math.MaxUint32},
		{Kind: api.PktOp, Epoch: 1, Seq: 5, Puts: puts(0)},
		{Kind: api.PktOp, Epoch: 1, Seq: 5, Puts: puts(11, 0)},
		{Kind: api.PktOp, Epoch: 3, Seq: 1 << 24, Puts: puts(4, 3, 2, 1, 0)},
		{Kind: api.PktOp, Puts: make([]api.Put, 1)},
		{Kind: api.PktSync, Epoch: 0x14131211, Seq: 0x18171615, Puts: puts(7)},
		{Kind: api.PktSync, Epoch: 9, Seq: 8, Puts: puts(11, 10, 9, 8, 7)},
	}
}

// digits are n's four bytes, the lowest first, told by division.
func digits(n uint32) []byte {
	var b []byte
	for range 4 {
		b = append(b, byte(n%256))
		n /= 256
	}
	return b
}

// checked are the bytes, and a right check behind them.
func checked(b []byte) []byte {
	c := crc.Check(b)
	return append(slices.Clone(b), byte(c%256), byte(c/256))
}

// bytesOf are the packet's bytes as the chapter's words have them, whether it may be or not, with that count.
func bytesOf(p api.Packet, count int) []byte {
	b := slices.Concat([]byte{byte(p.Kind)}, digits(p.Epoch), digits(p.Seq), []byte{byte(count)})
	for _, put := range p.Puts {
		b = slices.Concat(b, []byte{byte(put.At)}, put.Data[:])
	}
	return checked(b)
}

// rightBytes are those of a packet that may be.
func rightBytes(p api.Packet) []byte { return bytesOf(p, len(p.Puts)) }

// mayBe is what the chapters' words say of a packet, told by counting.
func mayBe(p api.Packet) bool {
	if p.Kind == 3 || p.Kind == 4 {
		return len(p.Puts) == 0
	}
	times := map[int]int{}
	for _, put := range p.Puts {
		times[put.At]++
		if put.At < 0 || put.At > 11 || times[put.At] > 1 {
			return false
		}
	}
	return (p.Kind == 1 || p.Kind == 2) && len(p.Puts) > 0 && len(p.Puts) < 6
}

// readByWords is the packet that the bytes tell, and whether it may be, and has a right check.
func readByWords(b []byte) (api.Packet, bool) {
	if len(b) < 12 || len(b) != 12+33*int(b[9]) || !bytes.Equal(b, checked(b[:len(b)-2])) {
		return api.Packet{}, false
	}
	p := api.Packet{Kind: int(b[0])}
	for i := range 4 {
		p.Epoch += uint32(b[1+i]) << (8 * i)
		p.Seq += uint32(b[5+i]) << (8 * i)
	}
	for k := range int(b[9]) {
		part := b[10+33*k:]
		put := api.Put{At: int(part[0])}
		copy(put.Data[:], part[1:33])
		p.Puts = append(p.Puts, put)
	}
	return p, mayBe(p)
}

// alike tells whether the packets are the same, field by field.
func alike(a, b api.Packet) bool {
	return a.Kind == b.Kind && a.Epoch == b.Epoch && a.Seq == b.Seq && slices.Equal(a.Puts, b.Puts)
}

// wantBytes holds Encode against the words, and Decode against telling the packet again.
func wantBytes(t *testing.T, p api.Packet) {
	t.Helper()
	got, e := packet.Encode(p)
	if e != api.OK || !bytes.Equal(got, rightBytes(p)) {
		t.Errorf("%v: %x, error %d, want %x", p, got, e, rightBytes(p))
	}
	wantPacket(t, got, p)
}

// wantNoBytes holds Encode against that the packet may not be.
func wantNoBytes(t *testing.T, p api.Packet) {
	t.Helper()
	if got, e := packet.Encode(p); e != api.ErrForm || len(got) != 0 {
		t.Errorf("%v: %x, error %d", p, got, e)
	}
}

// wantPacket holds Decode against that packet.
func wantPacket(t *testing.T, b []byte, want api.Packet) {
	t.Helper()
	if got, e := packet.Decode(b); e != api.OK || !alike(got, want) {
		t.Errorf("%x: %v, error %d, want %v", b, got, e, want)
	}
}

// wantNone holds Decode against that the bytes are no packet's.
func wantNone(t *testing.T, b []byte) {
	t.Helper()
	if got, e := packet.Decode(b); e != api.ErrForm || !alike(got, api.Packet{}) {
		t.Errorf("%x: %v, error %d", b, got, e)
	}
}

// P18.1: known packets, whose checks come from elsewhere (Python's crc_hqx of the bits in reverse), both ways.
func TestKnown(t *testing.T) {
	for s, p := range map[string]api.Packet{
		"03010000000100000000a851": {Kind: 3, Epoch: 1, Seq: 1},
		"04010203040506070800bf02": {Kind: 4, Epoch: 0x04030201, Seq: 0x08070605},
		"03fffffffffeffffff007928": {Kind: 3, Epoch: math.MaxUint32, Seq: math.MaxUint32 - 1},
		"010100000005000000010b0102030405060708090a0b0c0d0e0f101112131415161718191a1b1c1d1e1f20d0fa":                                                                   {Kind: 1, Epoch: 1, Seq: 5, Puts: []api.Put{{At: 11, Data: blockFrom(1)}}},
		"02020000000001000001000000000000000000000000000000000000000000000000000000000000000000422e":                                                                   {Kind: 2, Epoch: 2, Seq: 256, Puts: []api.Put{{}}},
		"0100010000000000010201ffffffffffffffffffffffffffffffffffffffffffffffffffffffffffffffff00a0a1a2a3a4a5a6a7a8a9aaabacadaeafb0b1b2b3b4b5b6b7b8b9babbbcbdbebf1e94": {Kind: 1, Epoch: 256, Seq: 1 << 24, Puts: []api.Put{{At: 1, Data: api.Block(slices.Repeat([]byte{255}, 32))}, {At: 0, Data: blockFrom(0xa0)}}},
	} {
		want, err := hex.DecodeString(s)
		if err != nil {
			t.Fatal(err)
		}
		if got, e := packet.Encode(p); e != api.OK || !bytes.Equal(got, want) {
			t.Errorf("%v: %x, error %d, want %x", p, got, e, want)
		}
		wantPacket(t, want, p)
	}
}

// P18.1: the chapter's example.
func TestExample(t *testing.T) {
	if b, _ := packet.Encode(api.Packet{Kind: api.PktAck, Epoch: 7, Seq: 9}); len(b) != 12 {
		t.Errorf("%x", b)
	}
}

// P18.1: each kind with and without puts, and kinds that are none.
func TestKinds(t *testing.T) {
	for _, p := range somePackets() {
		wantBytes(t, p)
	}
	for kind := -3; kind < 10; kind++ {
		for n := range 7 {
			p := api.Packet{Kind: kind, Epoch: 1, Seq: 2, Puts: puts([]int{3, 1, 4, 0, 5, 9}[:n]...)}
			if mayBe(p) {
				wantBytes(t, p)
			} else {
				wantNoBytes(t, p)
			}
		}
	}
	for _, kind := range []int{255, 256, 257, 258, 259, 260, -252, -253, -254, -255, 1<<32 + 1, 1<<32 + 3, math.MaxInt, math.MinInt} {
		wantNoBytes(t, api.Packet{Kind: kind})
		wantNoBytes(t, api.Packet{Kind: kind, Puts: puts(1)})
	}
	// nil and empty lists are one.
	wantBytes(t, api.Packet{Kind: api.PktAck, Epoch: 1, Puts: []api.Put{}})
	wantNoBytes(t, api.Packet{Kind: api.PktOp, Epoch: 1, Puts: []api.Put{}})
}

// P18.1: puts that aren't good, of either kind that has puts.
func TestWrongPuts(t *testing.T) {
	for _, kind := range []int{api.PktOp, api.PktSync} {
		for _, at := range [][]int{
			nil, {0, 1, 2, 3, 4, 5}, {0, 1, 2, 3, 4, 5, 6, 7, 8, 9, 10, 11},
			{-1}, {12}, {256}, {255}, {-256}, {1 << 32}, {math.MaxInt}, {math.MinInt}, {0, 12}, {-1, 0}, {0, 1, 2, 3, 12}, {0, 1, 2, 3, -1},
			{3, 3}, {0, 1, 0}, {11, 1, 2, 3, 11}, {5, 5, 5, 5, 5},
		} {
			wantNoBytes(t, api.Packet{Kind: kind, Epoch: 1, Seq: 1, Puts: puts(at...)})
		}
		wantNoBytes(t, api.Packet{Kind: kind, Puts: make([]api.Put, 257)})
		wantNoBytes(t, api.Packet{Kind: kind, Puts: slices.Repeat(puts(1, 2), 10000)})
	}
	for _, kind := range []int{api.PktAck, api.PktStale} {
		for _, at := range [][]int{{0}, {1, 2}, {12}, {-1}, {0, 1, 2, 3, 4, 5}} {
			wantNoBytes(t, api.Packet{Kind: kind, Epoch: 1, Seq: 1, Puts: puts(at...)})
		}
		wantNoBytes(t, api.Packet{Kind: kind, Puts: make([]api.Put, 256)})
	}
}

// P18.1: Epoch and Seq at the bounds of their bytes, the lowest first.
func TestNumbers(t *testing.T) {
	edges := []uint32{0, 1, 255, 256, 65535, 65536, 1<<24 - 1, 1 << 24, 1<<31 - 1, 1 << 31, math.MaxUint32 - 1, math.MaxUint32, 0x04030201}
	for _, epoch := range edges {
		for _, seq := range edges {
			wantBytes(t, api.Packet{Kind: api.PktAck, Epoch: epoch, Seq: seq})
			wantBytes(t, api.Packet{Kind: api.PktOp, Epoch: epoch, Seq: seq, Puts: puts(3, 9)})
		}
	}
}

// P18.1: beginnings and ends of right bytes, more behind and ahead of them, with right checks, too.
func TestLengths(t *testing.T) {
	wantNone(t, nil)
	wantNone(t, []byte{})
	for _, p := range somePackets() {
		all := rightBytes(p)
		for n := range all {
			wantNone(t, all[:n])
			wantNone(t, all[n+1:])
			if n != len(all)-2 {
				wantNone(t, checked(all[:n]))
			}
		}
		for _, n := range []int{1, 2, 12, 32, 33, 34, 66} {
			wantNone(t, slices.Concat(all, make([]byte, n)))
			wantNone(t, slices.Concat(make([]byte, n), all))
			wantNone(t, checked(slices.Concat(all[:len(all)-2], make([]byte, n))))
		}
		wantNone(t, append(slices.Clone(all), all...))
	}
	for _, n := range []int{1, 9, 10, 11, 12, 13, 45, 1 << 16} {
		wantNone(t, make([]byte, n))
		wantNone(t, checked(make([]byte, n)))
	}
}

// P18.1: a right check behind what may not be: kinds, counts, blocks.
func TestNobodysBytes(t *testing.T) {
	for kind := range 256 {
		for _, at := range [][]int{nil, {3}, {3, 4}, {0, 1, 2, 3, 4, 5}, {3, 3}, {12}, {255}} {
			p := api.Packet{Kind: kind, Epoch: 6, Seq: 7, Puts: puts(at...)}
			if mayBe(p) {
				wantPacket(t, rightBytes(p), p)
			} else {
				wantNone(t, rightBytes(p))
			}
		}
	}
	for _, p := range somePackets() {
		for count := range 256 {
			if count != len(p.Puts) {
				wantNone(t, bytesOf(p, count))
			}
		}
	}
	for n := 6; n < 256; n += 50 {
		wantNone(t, rightBytes(api.Packet{Kind: api.PktOp, Puts: make([]api.Put, n)}))
	}
}

// P18.1: each byte but the check turned into each other value, behind it a right check: the packet that it is then, or none.
func TestEachByteChecked(t *testing.T) {
	for _, p := range []api.Packet{somePackets()[1], somePackets()[3], somePackets()[5], somePackets()[8]} {
		ahead := rightBytes(p)
		for i := range len(ahead) - 2 {
			for x := range 256 {
				b := slices.Clone(ahead)
				b[i] = byte(x)
				b = checked(b[:len(b)-2])
				want, ok := readByWords(b)
				if !ok {
					wantNone(t, b)
					continue
				}
				wantPacket(t, b, want)
				if alike(want, p) != (b[i] == ahead[i]) {
					t.Errorf("byte %d is nothing to the packet", i)
				}
			}
		}
	}
}

// P18.2: with one byte turned, by whatever, it is none.
func TestOneByteTurned(t *testing.T) {
	for _, p := range somePackets() {
		b := rightBytes(p)
		for i := range b {
			for x := 1; x < 256; x++ {
				b[i] ^= byte(x)
				wantNone(t, b)
				b[i] ^= byte(x)
			}
		}
		wantPacket(t, b, p)
	}
}

// P18.1: so it is with two neighboring ones turned, by lot and bit by bit.
func TestTwoBytesTurned(t *testing.T) {
	lot := rand.New(rand.NewSource(18))
	for _, p := range somePackets() {
		b := rightBytes(p)
		for i := range len(b) - 1 {
			turn := func(x, y byte) {
				b[i] ^= x
				b[i+1] ^= y
				wantNone(t, b)
				b[i] ^= x
				b[i+1] ^= y
			}
			for bit := range 64 {
				turn(1<<(bit%8), 1<<(bit/8))
			}
			for range 100 {
				turn(byte(lot.Intn(255)+1), byte(lot.Intn(255)+1))
			}
		}
		wantPacket(t, b, p)
	}
}

// P18.1, P18.2: packets by lot, such as may be and such as may not be.
func TestByLot(t *testing.T) {
	lot := rand.New(rand.NewSource(180))
	seen := map[bool]int{}
	for range 20000 {
		p := api.Packet{Kind: lot.Intn(6), Epoch: lot.Uint32(), Seq: lot.Uint32()}
		if p.Kind < 3 || lot.Intn(4) == 0 {
			for _, at := range lot.Perm(13)[:lot.Intn(7)] {
				put := api.Put{At: at}
				lot.Read(put.Data[:])
				p.Puts = append(p.Puts, put)
			}
		}
		seen[mayBe(p)]++
		if mayBe(p) {
			wantBytes(t, p)
		} else {
			wantNoBytes(t, p)
		}
	}
	if seen[true] < 1000 || seen[false] < 1000 {
		t.Error(seen)
	}
}

// wantSame holds Same against that answer, both ways.
func wantSame(t *testing.T, a, b api.Packet, want bool) {
	t.Helper()
	if packet.Same(a, b) != want || packet.Same(b, a) != want {
		t.Errorf("%v, %v: not %v", a, b, want)
	}
}

// P18.1: packets are the same as they themselves, in memory of their own, and as no other one.
func TestSame(t *testing.T) {
	all := append(somePackets(), api.Packet{}, api.Packet{Kind: 99, Epoch: 1, Puts: puts(12, 12)}, api.Packet{Kind: api.PktAck, Puts: puts(-1)})
	for i, p := range all {
		for k, q := range all {
			q.Puts = slices.Clone(q.Puts)
			wantSame(t, p, q, i == k)
		}
	}
	wantSame(t, api.Packet{Kind: 3, Puts: nil}, api.Packet{Kind: 3, Puts: []api.Put{}}, true)
}

// P18.1: with any one field another one they are not the same.
func TestNotSame(t *testing.T) {
	for _, change := range []func(p *api.Packet){
		func(p *api.Packet) { p.Kind = 2 },
		func(p *api.Packet) { p.Kind += 256 },
		func(p *api.Packet) { p.Kind += 1 << 32 },
		func(p *api.Packet) { p.Kind = -p.Kind },
		func(p *api.Packet) { p.Epoch++ },
		func(p *api.Packet) { p.Epoch ^= 1 << 31 },
		func(p *api.Packet) { p.Seq-- },
		func(p *api.Packet) { p.Seq ^= 1 << 31 },
		func(p *api.Packet) { p.Epoch, p.Seq = p.Seq, p.Epoch },
		func(p *api.Packet) { p.Puts = nil },
		func(p *api.Packet) { p.Puts = p.Puts[:2] },
		func(p *api.Packet) { p.Puts = p.Puts[1:] },
		func(p *api.Packet) { p.Puts = append(p.Puts, api.Put{}) },
		func(p *api.Packet) { p.Puts = append(p.Puts, p.Puts[2]) },
		func(p *api.Packet) { p.Puts[0].At = 9 },
		func(p *api.Packet) { p.Puts[2].At += 256 },
		func(p *api.Packet) { p.Puts[1].At += 1 << 32 },
		func(p *api.Packet) { p.Puts[0], p.Puts[1] = p.Puts[1], p.Puts[0] },
		func(p *api.Packet) { p.Puts[1].Data[0]++ },
		func(p *api.Packet) { p.Puts[2].Data[31] ^= 128 },
		func(p *api.Packet) { p.Puts[0].Data = api.Block{} },
	} {
		p := api.Packet{Kind: 1, Epoch: 3, Seq: 4, Puts: puts(5, 6, 7)}
		q := api.Packet{Kind: 1, Epoch: 3, Seq: 4, Puts: puts(5, 6, 7)}
		wantSame(t, p, q, true)
		change(&q)
		wantSame(t, p, q, false)
	}
	for i := range 32 {
		p := api.Packet{Kind: 2, Puts: puts(5)}
		q := api.Packet{Kind: 2, Puts: puts(5)}
		q.Puts[0].Data[i]++
		wantSame(t, p, q, false)
	}
}

// Rule 2: what is handed in is not changed, its spare room included, nor kept; what is told is new memory, its spare room too.
func TestMemory(t *testing.T) {
	want := api.Packet{Kind: api.PktOp, Epoch: 1, Seq: 2, Puts: puts(3, 4)}
	room := append(rightBytes(want), 7, 8, 9)
	ahead := slices.Clone(room)
	first, e := packet.Decode(room[:len(room)-3])
	second, _ := packet.Decode(room[:len(room)-3])
	if e != api.OK || !alike(first, want) || !bytes.Equal(room, ahead) {
		t.Errorf("%v, error %d, %x", first, e, room)
	}
	all := first.Puts[:cap(first.Puts)]
	for i := range all {
		all[i] = api.Put{At: 99, Data: blockFrom(200)}
	}
	if !bytes.Equal(room, ahead) || !alike(second, want) {
		t.Errorf("%x, %v", room, second)
	}
	clear(room)
	if !alike(second, want) {
		t.Errorf("%v", second)
	}
	list := puts(3, 4, 4, 12)
	p := api.Packet{Kind: api.PktOp, Epoch: 1, Seq: 2, Puts: list[:2]}
	b, _ := packet.Encode(p)
	again, _ := packet.Encode(p)
	b = b[:cap(b)]
	for i := range b {
		b[i] = 0x99
	}
	if !bytes.Equal(again, rightBytes(want)) || !slices.Equal(list, puts(3, 4, 4, 12)) || !packet.Same(p, want) {
		t.Errorf("%x, %v", again, list)
	}
	wantBytes(t, p)
}
