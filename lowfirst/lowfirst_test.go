package lowfirst

import (
	"bytes"
	"encoding/binary"
	"math/rand"
	"testing"
)

// The lowest byte stands first, whatever stands ahead of it.
func TestAppend(t *testing.T) {
	if b := AppendLong(nil, 0x04030201); !bytes.Equal(b, []byte{1, 2, 3, 4}) {
		t.Errorf("%x", b)
	}
	if b := AppendShort(nil, 0x0201); !bytes.Equal(b, []byte{1, 2}) {
		t.Errorf("%x", b)
	}
	if b := AppendShort(AppendLong([]byte{9}, 0xfffefdfc), 0xff00); !bytes.Equal(b, []byte{9, 0xfc, 0xfd, 0xfe, 0xff, 0, 0xff}) {
		t.Errorf("%x", b)
	}
}

// Numbers of two bytes, all of them, both ways, whatever stands behind them, held against the library's.
func TestShorts(t *testing.T) {
	for n := range 1 << 16 {
		want := binary.LittleEndian.AppendUint16(nil, uint16(n))
		if b := AppendShort(nil, uint16(n)); !bytes.Equal(b, want) {
			t.Errorf("%04x: %x", n, b)
		}
		if got := Short(append(want, 0xff)); got != uint16(n) {
			t.Errorf("%x: %04x", want, got)
		}
	}
}

// Numbers of four bytes, each bit alone and by lot, both ways, whatever stands behind them, held against the library's.
func TestLongs(t *testing.T) {
	all := []uint32{0, 1<<32 - 1}
	for bit := range 32 {
		all = append(all, 1<<bit)
	}
	lot := rand.New(rand.NewSource(1))
	for range 10000 {
		all = append(all, lot.Uint32())
	}
	for _, n := range all {
		want := binary.LittleEndian.AppendUint32(nil, n)
		if b := AppendLong(nil, n); !bytes.Equal(b, want) {
			t.Errorf("%08x: %x", n, b)
		}
		if got := Long(append(want, 0xff)); got != n {
			t.Errorf("%x: %08x", want, got)
		}
	}
}
