package label

import (
	"encoding/hex"
	"math"
	"math/rand"
	"slices"
	"testing"

	"tollhouse/api"
	"tollhouse/crc"
	"tollhouse/seal"
)

// longs are numbers of four bytes at the edges, and one whose bytes all differ.
func longs() []uint32 {
	return []uint32{0, 1, 255, 256, 65535, 65536, 1 << 24, 1 << 31, math.MaxUint32 - 1, math.MaxUint32, 0x04030201}
}

// shorts are numbers of two bytes at the edges, and one whose bytes differ.
func shorts() []uint16 {
	return []uint16{0, 1, 255, 256, 0x0fff, 0x1000, 0x8000, 65534, 65535, 0x0201}
}

// labels are such with each field alone at its edges, and such with all together.
func labels() []api.Label {
	var all []api.Label
	for _, n := range longs() {
		all = append(all, api.Label{Epoch: n}, api.Label{Seq: n}, api.Label{Next: n}, api.Label{Epoch: n, Seq: n, Next: n})
		for _, s := range shorts() {
			all = append(all, api.Label{Epoch: n, Seq: n, Next: n, Dirty: s, Last: s}, api.Label{Epoch: n, Seq: n + 1, Next: n + 2, Dirty: s, Last: ^s})
		}
	}
	for _, s := range shorts() {
		all = append(all, api.Label{Dirty: s}, api.Label{Last: s}, api.Label{Dirty: s, Last: s})
	}
	return append(all, api.Label{Epoch: 0x04030201, Seq: 0x08070605, Next: 0x0c0b0a09, Dirty: 0x0e0d, Last: 0x100f})
}

// byLot is a label of any numbers.
func byLot(lot *rand.Rand) api.Label {
	return api.Label{Epoch: lot.Uint32(), Seq: lot.Uint32(), Next: lot.Uint32(), Dirty: uint16(lot.Uint32()), Last: uint16(lot.Uint32())}
}

// digits are n's lowest bytes, the lowest first, told by division.
func digits(n uint32, bytes int) []byte {
	var b []byte
	for range bytes {
		b = append(b, byte(n%256))
		n /= 256
	}
	return b
}

// sealed is a sector of that mark and those bytes with a right check, whatever they are.
func sealed(mark byte, body []byte) api.Block {
	var b api.Block
	b[0] = mark
	copy(b[1:30], body)
	check := crc.Check(b[:30])
	b[30], b[31] = byte(check%256), byte(check/256)
	return b
}

// numbers are the bytes of the label's numbers, as the chapter's words have them.
func numbers(l api.Label) []byte {
	return slices.Concat(digits(l.Epoch, 4), digits(l.Seq, 4), digits(l.Next, 4), digits(uint32(l.Dirty), 2), digits(uint32(l.Last), 2))
}

// wantLabel holds b against being the sector of want.
func wantLabel(t *testing.T, b api.Block, want api.Label) {
	t.Helper()
	if l, e := Decode(b); l != want || e != api.OK {
		t.Errorf("%x: %v, error %d, want %v", b, l, e, want)
	}
}

// wantNone holds b against being no label's sector.
func wantNone(t *testing.T, b api.Block, what string) {
	t.Helper()
	if l, e := Decode(b); l != (api.Label{}) || e != api.ErrForm {
		t.Errorf("%s, %x: %v, error %d", what, b, l, e)
	}
}

// block is the sector of those digits.
func block(t *testing.T, s string) api.Block {
	t.Helper()
	b, err := hex.DecodeString(s)
	if err != nil || len(b) != api.Size {
		t.Fatal(s, err)
	}
	return api.Block(b)
}

// P7.1: known sectors, whose checks come from elsewhere (Python's crc_hqx of the bits in reverse), both ways.
func TestKnown(t *testing.T) {
	for _, x := range []struct {
		l api.Label
		s string
	}{
		{api.Label{}, "4c0000000000000000000000000000000000000000000000000000000000a6ad"},
		{api.Label{Epoch: 1, Next: 1}, "4c0100000000000000010000000000000000000000000000000000000000fb63"},
		{api.Label{Epoch: 0x04030201, Seq: 0x08070605, Next: 0x0c0b0a09, Dirty: 0x0e0d, Last: 0x100f}, "4c0102030405060708090a0b0c0d0e0f1000000000000000000000000000102a"},
		{api.Label{Epoch: math.MaxUint32, Seq: math.MaxUint32, Next: math.MaxUint32, Dirty: 0xffff, Last: 0xffff}, "4cffffffffffffffffffffffffffffffff00000000000000000000000000dd01"},
		{api.Label{Epoch: 2, Seq: 9, Next: 10, Dirty: 0x0fff, Last: 0x0801}, "4c02000000090000000a000000ff0f010800000000000000000000000000eb65"},
		{api.Label{Last: 0x8000}, "4c0000000000000000000000000000008000000000000000000000000000782b"},
	} {
		b := block(t, x.s)
		if got := Encode(x.l); got != b {
			t.Errorf("%v: %x, want %x", x.l, got, b)
		}
		wantLabel(t, b, x.l)
	}
}

// P7.1: known sectors with a right check that are no label's.
func TestKnownNone(t *testing.T) {
	for what, s := range map[string]string{
		"the last byte of the body is 1": "4c01000000000000000100000000000000000000000000000000000000017272",
		"the byte behind Last is 1":      "4c00000000000000000000000000000000010000000000000000000000000ba8",
		"the log's mark":                 "5701000000000000000100000000000000000000000000000000000000007512",
		"mark 0":                         "000100000000000000010000000000000000000000000000000000000000f693",
	} {
		b := block(t, s)
		if b != sealed(b[0], b[1:30]) {
			t.Errorf("%s: the check of %x", what, b)
		}
		wantNone(t, b, what)
	}
}

// P7.1: each byte of the sector stands at its place.
func TestEncodePlaces(t *testing.T) {
	for _, l := range labels() {
		b := Encode(l)
		if b[0] != 0x4c {
			t.Errorf("%v: mark %02x", l, b[0])
		}
		for _, x := range []struct {
			what     string
			at, size int
			n        uint32
		}{
			{"Epoch", 1, 4, l.Epoch}, {"Seq", 5, 4, l.Seq}, {"Next", 9, 4, l.Next}, {"Dirty", 13, 2, uint32(l.Dirty)}, {"Last", 15, 2, uint32(l.Last)},
		} {
			if want := digits(x.n, x.size); !slices.Equal(b[x.at:x.at+x.size], want) {
				t.Errorf("%v: %s: %x, want %x", l, x.what, b[x.at:x.at+x.size], want)
			}
		}
		if [13]byte(b[17:30]) != [13]byte{} {
			t.Errorf("%v: the zeros behind Last: %x", l, b)
		}
		if check := crc.Check(b[:30]); b[30] != byte(check) || b[31] != byte(check>>8) {
			t.Errorf("%v: the check %04x: %x", l, check, b)
		}
	}
}

// P7.1: the sector is seal's, of mark 4c and the numbers' bytes.
func TestEncodeIsSeals(t *testing.T) {
	for _, l := range labels() {
		want, e := seal.Encode(0x4c, numbers(l))
		if b := Encode(l); b != want || e != api.OK {
			t.Errorf("%v: %x, want %x, error %d", l, b, want, e)
		}
	}
}

// P7.1: the label of zeros is sealed, too, and two sectors are its own: that, and zeros.
func TestZeros(t *testing.T) {
	b := Encode(api.Label{})
	if b == (api.Block{}) || b != sealed(0x4c, nil) {
		t.Errorf("%x", b)
	}
	wantLabel(t, b, api.Label{})
	wantLabel(t, api.Block{}, api.Label{})
}

// P7.1: a sector of zeros but for one byte is no label's, whichever byte it is.
func TestNearlyZeros(t *testing.T) {
	for i := range api.Size {
		for x := 1; x < 256; x++ {
			var b api.Block
			b[i] = byte(x)
			wantNone(t, b, "zeros but for a byte")
		}
	}
}

// P7.3: Decode of Encode is the label.
func TestDecodeOfEncode(t *testing.T) {
	for _, l := range labels() {
		wantLabel(t, Encode(l), l)
	}
	lot := rand.New(rand.NewSource(7))
	for range 20000 {
		l := byLot(lot)
		wantLabel(t, Encode(l), l)
	}
}

// P7.1: each single bit of a label is kept.
func TestEachBit(t *testing.T) {
	for bit := range 32 {
		n := uint32(1) << bit
		for _, l := range []api.Label{{Epoch: n}, {Seq: n}, {Next: n}, {Dirty: uint16(n)}, {Last: uint16(n)}} {
			b := Encode(l)
			if b != sealed(0x4c, numbers(l)) {
				t.Errorf("%v: %x", l, b)
			}
			wantLabel(t, b, l)
		}
	}
}

// P7.1: of all marks one makes a label's sector, be the check right.
func TestDecodeEachMark(t *testing.T) {
	for _, l := range labels() {
		for mark := range 256 {
			b := sealed(byte(mark), numbers(l))
			if mark == 0x4c {
				wantLabel(t, b, l)
			} else {
				wantNone(t, b, "another mark")
			}
		}
	}
}

// P7.1: of all checks one makes a label's sector.
func TestDecodeEachCheck(t *testing.T) {
	for _, l := range []api.Label{{}, {Epoch: 1, Next: 1}, {Epoch: 2, Seq: 9, Next: 10, Dirty: 0x0fff, Last: 0x0801}} {
		b := Encode(l)
		right := uint16(b[30]) | uint16(b[31])<<8
		for check := range 1 << 16 {
			b[30], b[31] = byte(check), byte(check>>8)
			if uint16(check) == right {
				wantLabel(t, b, l)
			} else {
				wantNone(t, b, "another check")
			}
		}
	}
}

// P7.1: each byte turned into each other value makes no label's sector.
func TestDecodeOneTurned(t *testing.T) {
	for _, l := range []api.Label{{}, {Epoch: 1, Next: 1}, {Epoch: 0x04030201, Seq: 0x08070605, Next: 0x0c0b0a09, Dirty: 0x0e0d, Last: 0x100f}} {
		b := Encode(l)
		for i := range b {
			turned := b
			for x := range 256 {
				turned[i] = byte(x)
				if turned != b {
					wantNone(t, turned, "one byte turned")
				}
			}
		}
	}
}

// P7.1: bytes behind Last that are not all zeros make no label's sector, be the check right; the label of zeros among them.
func TestDecodeBehindLast(t *testing.T) {
	for _, l := range []api.Label{{}, {Epoch: 1, Next: 1}, {Last: 0xffff}, {Epoch: 2, Seq: 9, Next: 10, Dirty: 0x0fff, Last: 0x0801}} {
		for i := 16; i < 29; i++ {
			for x := 1; x < 256; x++ {
				body := append(numbers(l), make([]byte, 13)...)
				body[i] = byte(x)
				wantNone(t, sealed(0x4c, body), "a byte behind Last")
			}
		}
		wantNone(t, sealed(0x4c, append(numbers(l), 0, 0, 0, 1, 2, 3, 4, 5, 6, 7, 8, 9, 10)), "bytes behind Last")
		wantNone(t, sealed(0x4c, append(numbers(l), 0, 1, 0xff)), "bytes behind Last that make 0 when added up")
		wantNone(t, sealed(0x4c, append(numbers(l), 5, 5)), "bytes behind Last that turn each other to 0")
	}
}

// P7.1: sectors by lot: just those are labels' that Encode makes of what they tell.
func TestDecodeByLot(t *testing.T) {
	lot := rand.New(rand.NewSource(4))
	for range 20000 {
		var b api.Block
		lot.Read(b[:])
		want := byLot(lot)
		switch lot.Intn(4) {
		case 0:
			b = sealed(0x4c, b[1:30])
		case 1:
			b = sealed(byte(lot.Intn(3))+0x4b, numbers(want))
		}
		if b == sealed(0x4c, numbers(want)) {
			wantLabel(t, b, want)
		} else {
			wantNone(t, b, "by lot")
		}
	}
}

// P7.2: the chapter's example, and what the words say of epochs and numbers at the edges.
func TestLater(t *testing.T) {
	const most = math.MaxUint32
	for _, x := range []struct {
		epoch, seq, than, number uint32
		want                     bool
	}{
		{2, 0, 1, 9, true}, // the chapter's example
		{1, 9, 2, 0, false},
		{2, 9, 1, 0, true},
		{1, 0, 2, 9, false},
		{1, 1, 1, 0, true},
		{1, 0, 1, 1, false},
		{1, 9, 1, 9, false},
		{0, 0, 0, 0, false},
		{0, 1, 0, 0, true},
		{1, 0, 0, 0, true},
		{0, 0, 0, 1, false},
		{0, 0, 1, 0, false},
		{most, most, most, most, false},
		{most, most, most, most - 1, true},
		{most, most - 1, most, most, false},
		{most, 0, most - 1, most, true},
		{most - 1, most, most, 0, false},
		{1, 0, 0, most, true},
		{0, most, 1, 0, false},
		// Numbers do not wrap round: the greatest is later than 0, and far from it as well.
		{most, 0, 0, 0, true},
		{0, 0, most, 0, false},
		{3, most, 3, 0, true},
		{3, 0, 3, most, false},
		{3, 1 << 31, 3, 0, true},
		{3, 0, 3, 1 << 31, false},
		{1<<31 + 1, 0, 1, 0, true},
		{1, 0, 1<<31 + 1, 0, false},
	} {
		if got := Later(x.epoch, x.seq, x.than, x.number); got != x.want {
			t.Errorf("%v: %v", x, got)
		}
	}
}

// P7.2: Later orders pairs as one number of both does, and never says of two that each is later.
func TestLaterOrders(t *testing.T) {
	hold := func(epoch, seq, than, number uint32) {
		a, b := uint64(epoch)<<32+uint64(seq), uint64(than)<<32+uint64(number)
		if got := Later(epoch, seq, than, number); got != (a > b) {
			t.Errorf("%d %d, %d %d: %v", epoch, seq, than, number, got)
		}
		if got := Later(than, number, epoch, seq); got != (b > a) {
			t.Errorf("%d %d, %d %d: %v", than, number, epoch, seq, got)
		}
	}
	for _, epoch := range longs() {
		for _, seq := range longs() {
			for _, than := range longs() {
				for _, number := range longs() {
					hold(epoch, seq, than, number)
				}
			}
		}
	}
	lot := rand.New(rand.NewSource(2))
	for range 20000 {
		hold(lot.Uint32(), lot.Uint32(), lot.Uint32(), lot.Uint32())
		hold(lot.Uint32()%3, lot.Uint32(), lot.Uint32()%3, lot.Uint32())
	}
}

// puts are such of those blocks, with some data that is not asked for.
func puts(at ...int) []api.Put {
	var all []api.Put
	for i, a := range at {
		all = append(all, api.Put{At: a, Data: api.Block{byte(i), 0xff}})
	}
	return all
}

// P7.2: a bit for each put of a block, and none for others.
func TestBits(t *testing.T) {
	for _, x := range []struct {
		at   []int
		want uint16
	}{
		{nil, 0},
		{[]int{}, 0},
		{[]int{0}, 0x0001},
		{[]int{11}, 0x0800},
		{[]int{-1}, 0},
		{[]int{12}, 0},
		{[]int{-1, 0, 11, 12}, 0x0801},
		{[]int{12, 11, 0, -1}, 0x0801},
		{[]int{3, 3}, 0x0008},
		{[]int{3, 3, 3}, 0x0008},
		{[]int{11, 0, 11, 0}, 0x0801},
		{[]int{1, 2, 4, 8}, 0x0116},
		{[]int{0, 1, 2, 3, 4, 5, 6, 7, 8, 9, 10, 11}, 0x0fff},
		{[]int{-12, -11, -2, 13, 14, 15, 16, 17, 31, 32, 63, 64, 127, 128, 255, 256, 1 << 16, 1<<16 + 1}, 0},
		{[]int{math.MinInt, math.MinInt + 1, math.MaxInt, math.MaxInt - 1, 1 << 32, 1<<32 + 3, -1 << 32, 3 - 1<<32}, 0},
		{[]int{math.MinInt, 5, math.MaxInt}, 0x0020},
	} {
		if got := Bits(puts(x.at...)...); got != x.want {
			t.Errorf("%v: %04x, want %04x", x.at, got, x.want)
		}
	}
	if got := Bits(); got != 0 {
		t.Errorf("no puts: %04x", got)
	}
}

// P7.2: each single At has its own bit, just from 0 to Blocks - 1.
func TestBitsEach(t *testing.T) {
	for at := -300; at < 300; at++ {
		var want uint16
		if at >= 0 && at < 12 {
			want = uint16(math.Pow(2, float64(at)))
		}
		if got := Bits(api.Put{At: at}); got != want {
			t.Errorf("%d: %04x, want %04x", at, got, want)
		}
	}
}

// P7.2: many puts, in any order: the bits are those of each, taken together; what they are to write does not matter.
func TestBitsMany(t *testing.T) {
	lot := rand.New(rand.NewSource(12))
	for n := range 200 {
		var many []api.Put
		var blocks [api.Blocks]bool
		for range n {
			p := api.Put{At: lot.Intn(40) - 14}
			lot.Read(p.Data[:])
			if p.At >= 0 && p.At < len(blocks) {
				blocks[p.At] = true
			}
			many = append(many, p)
		}
		got := Bits(many...)
		for at, has := range blocks {
			if has != (got>>at%2 == 1) {
				t.Errorf("%d puts: block %d: %04x", n, at, got)
			}
		}
		if got>>api.Blocks != 0 {
			t.Errorf("%d puts: bits of no block: %04x", n, got)
		}
		slices.Reverse(many)
		if again := Bits(many...); again != got {
			t.Errorf("%d puts, in reverse: %04x, want %04x", n, again, got)
		}
	}
	if got := Bits(slices.Repeat(puts(7, -1, 12), 100000)...); got != 0x0080 {
		t.Errorf("many: %04x", got)
	}
}

// Rule 2: the puts, their spare room included, are as they were, and what lies in that room is none of them.
func TestBitsChangesNothing(t *testing.T) {
	room := puts(0, 1, 2, 2, 11, 12, -1, 5, 9)
	ahead := slices.Clone(room)
	for n := range len(room) - 1 {
		got := Bits(room[1 : 1+n]...)
		if !slices.Equal(room, ahead) {
			t.Errorf("%d puts: %v", n, room)
		}
		if want := Bits(slices.Clip(slices.Clone(ahead[1 : 1+n]))...); got != want {
			t.Errorf("%d puts: the spare room is looked at: %04x, want %04x", n, got, want)
		}
	}
}

// Rule 4: an answer hangs on the arguments alone.
func TestNothingRemembered(t *testing.T) {
	l := api.Label{Epoch: 2, Seq: 9, Next: 10, Dirty: 3, Last: 0x0801}
	want := sealed(0x4c, numbers(l))
	for range 3 {
		if b := Encode(l); b != want {
			t.Errorf("%x, want %x", b, want)
		}
		wantLabel(t, want, l)
		wantNone(t, sealed(0x57, numbers(l)), "the log's mark")
		wantLabel(t, api.Block{}, api.Label{})
		if Bits(puts(3)...) != 8 || Bits() != 0 || !Later(2, 0, 1, 9) || Later(1, 9, 2, 0) {
			t.Error("another answer than before")
		}
		Encode(api.Label{Epoch: math.MaxUint32, Dirty: 0xffff})
		Bits(puts(0, 11)...)
	}
}
