package cell_test

import (
	"bytes"
	"math"
	"slices"
	"strings"
	"testing"

	"tollhouse/api"
	"tollhouse/ask"
	"tollhouse/caps"
	"tollhouse/cell"
	"tollhouse/desk"
	"tollhouse/token"
)

// wrongPlaces are such as there aren't.
func wrongPlaces() []int {
	return []int{-1, -2, -4, 4, 5, 255, 256, 1 << 32, 1<<32 + 1, math.MaxInt, math.MinInt}
}

// P27.1: a cell of each place, of keys of 1 to 64 bytes, as the words have it at first.
func TestNew(t *testing.T) {
	for place := range 4 {
		for _, n := range []int{1, 2, 32, 63, 64} {
			key := bytes.Repeat([]byte{byte(n)}, n)
			c, e := cell.New(place, key)
			if e != api.OK || c == nil {
				t.Fatalf("%d, %d bytes: error %d", place, n, e)
			}
			if c.Desk() != (desk.Desk{Epoch: 1, Sync: true}) || c.Queued() != 0 || len(c.Log()) != 0 || c.Node(0) == nil || c.Node(1) == nil || c.Node(0) == c.Node(1) {
				t.Errorf("%d, %d bytes: %v", place, n, c.Desk())
			}
			for k := range 2 {
				if l := c.Node(k).Label(); l != (api.Label{Epoch: 1, Next: 1}) || c.Node(k).Loose() != 0 || c.Node(k).Down() {
					t.Errorf("node %d: %v", k, l)
				}
				for i := range 12 {
					if b, e := c.Node(k).Block(i); b != (api.Block{}) || e != api.OK {
						t.Errorf("node %d: block %d: %x, error %d", k, i, b, e)
					}
				}
				if b, _ := c.Node(k).Read(1); b != (api.Block{}) {
					t.Errorf("node %d: a log: %x", k, b)
				}
			}
			// It is of that place and key.
			tok, _ := caps.Mint(key, api.Claim{Place: place, Rights: 1, Gen: 1})
			b, _ := ask.Encode(api.Ask{Kind: api.AskRead, Token: tok, Volume: "a"})
			if l := c.Ask(0, b); len(l) != 1 || l[0].Id != 1 || l[0].E != api.ErrName {
				t.Errorf("%v", l)
			}
		}
	}
}

// P27.1: no such place, or a key of no byte, or of more than 64.
func TestNewArg(t *testing.T) {
	for _, place := range wrongPlaces() {
		for _, key := range [][]byte{nil, {1}, make([]byte, 64), make([]byte, 65)} {
			if c, e := cell.New(place, key); c != nil || e != api.ErrArg {
				t.Errorf("%d, %d bytes: error %d", place, len(key), e)
			}
		}
	}
	for place := range 4 {
		for _, key := range [][]byte{nil, {}, make([]byte, 65), make([]byte, 66), make([]byte, 128), make([]byte, 100000)} {
			if c, e := cell.New(place, key); c != nil || e != api.ErrArg {
				t.Errorf("%d, %d bytes: error %d", place, len(key), e)
			}
		}
	}
}

// P27.1: of nil: none, ErrArg, zero.
func TestNil(t *testing.T) {
	var c *cell.Cell
	right := newTenant(t).bytesOf(api.Ask{Kind: api.AskRead, Token: newTenant(t).all, Volume: "a"})
	for _, b := range [][]byte{nil, {1}, right} {
		if l := c.Ask(1, b); len(l) != 0 {
			t.Error(l)
		}
	}
	for _, s := range []string{"", "status", "revoke", "make a 1", "promote 1"} {
		if l := c.Line(1, s); len(l) != 0 {
			t.Error(l)
		}
	}
	for _, n := range []int{0, 1, -1, 2, 15, 16} {
		c.Fuse(n, n)
		if e := c.Fate(n); e != api.ErrArg {
			t.Errorf("error %d", e)
		}
		if len(c.Crash(n, nil)) != 0 || len(c.Boot(n, []byte{1})) != 0 || c.Node(n) != nil {
			t.Error("something of nil")
		}
	}
	if len(c.Slot(true)) != 0 || len(c.Slot(false)) != 0 || c.Desk() != (desk.Desk{}) || c.Queued() != 0 || len(c.Log()) != 0 {
		t.Error("something of nil")
	}
}

// P27.1: Node is the node itself; nil of one that is down, or that there isn't.
func TestNode(t *testing.T) {
	x := newTenant(t)
	zero, one := x.Cell.Node(0), x.Cell.Node(1)
	if zero == nil || x.Cell.Node(0) != zero || x.Cell.Node(1) != one {
		t.Error("another node each time")
	}
	for _, n := range []int{-1, -2, 2, 3, 256, 1 << 32, 1<<32 + 1, math.MaxInt, math.MinInt} {
		if x.Cell.Node(n) != nil {
			t.Errorf("a node %d", n)
		}
	}
	x.crash(0)
	x.wantDown(true, false)
	x.crash(1)
	x.wantDown(true, true)
	x.boot(1)
	x.wantDown(true, false)
	x.boot(0)
	x.wantDown(false, false)
}

// P27.1: Fate is fates.Add of it.
func TestFate(t *testing.T) {
	x := newTenant(t)
	for _, n := range []int{-1, 16, 17, 255, math.MaxInt, math.MinInt} {
		if e := x.Fate(n); e != api.ErrArg {
			t.Errorf("%d: error %d", n, e)
		}
	}
	for k := range 64 {
		if e := x.Fate(k % 16); e != api.OK {
			t.Errorf("%d: error %d", k, e)
		}
	}
	if e := x.Fate(1); e != api.ErrQueue {
		t.Errorf("error %d", e)
	}
	if e := x.Fate(16); e != api.ErrArg {
		t.Errorf("error %d", e)
	}
	// Each slot takes one, be the link whole or cut, be there anything out or not.
	x.Cell.Slot(true)
	x.Cell.Slot(false)
	for range 2 {
		if e := x.Fate(1); e != api.OK {
			t.Errorf("error %d", e)
		}
	}
	if e := x.Fate(1); e != api.ErrQueue {
		t.Errorf("error %d", e)
	}
}

// P27.1: Fuse is of the disk of a node that is open; of one that is down, or that there isn't, it is nothing.
func TestFuse(t *testing.T) {
	x := newTenant(t)
	for _, n := range []int{-1, 2, math.MaxInt, math.MinInt} {
		x.Fuse(n, 0)
	}
	x.Fuse(1, 1)
	if n := x.Cell.Node(1); n.Write(18, api.Block{}) != api.OK || n.Write(18, api.Block{}) != api.ErrDown {
		t.Error("another fuse")
	}
	if n := x.Cell.Node(0); n.Write(18, api.Block{}) != api.OK || n.Flush() != api.OK {
		t.Error("the other node's fuse")
	}
	x = newTenant(t)
	x.Fuse(0, 0)
	x.Fuse(0, -1)
	x.want(x.says("make a 1"))
	x.want(x.slot(0), ok(1))
	x.crash(0)
	x.Fuse(0, 0)
	x.boot(0)
	x.want(x.says("make b 1"))
	x.want(x.slot(0), ok(2))
}

// The chapter's example.
func TestExample(t *testing.T) {
	x := newTenant(t)
	x.want(x.says("make data 2"))
	x.want(x.slot(0), ok(1))
}

// P27.2: bytes that are no request's: ErrForm, each with an Id of its own.
func TestAskForm(t *testing.T) {
	x := withVolume(t)
	right := x.bytesOf(api.Ask{Kind: api.AskRead, Token: x.all, Volume: "data", At: 1})
	for k, b := range [][]byte{nil, {}, {1}, make([]byte, 54), make([]byte, 86), right[:53], append(slices.Clone(right), 0), []byte("status"), make([]byte, 100000)} {
		x.want(x.asks(b), err(k+2, api.ErrForm))
	}
	for i := range right {
		b := slices.Clone(right)
		b[i] ^= 4
		x.want(x.asks(b), err(x.id, api.ErrForm))
	}
	x.want(x.asks(right), data(x.id, make([]byte, 32)...))
}

// P27.2: each of caps.Check's errors, for a read and a write, and that it is asked with the right of its kind, its Volume, the tick, and the generation.
func TestAskCaps(t *testing.T) {
	claim := api.Claim{Place: 2, Name: "data", Rights: 3, Until: 50, Gen: 1}
	turned := func(f func(c *api.Claim)) api.Token {
		c := claim
		f(&c)
		tok, _ := caps.Mint([]byte(aKey), c)
		return tok
	}
	stranger, _ := caps.Mint([]byte("another key"), claim)
	for _, y := range []struct {
		tok         api.Token
		volume      string
		tick        uint32
		read, write api.Errno
	}{
		{turned(func(c *api.Claim) {}), "data", 50, api.OK, api.OK},
		{turned(func(c *api.Claim) { c.Name = "" }), "data", 50, api.OK, api.OK},
		{turned(func(c *api.Claim) { c.Rights = 1 }), "data", 0, api.OK, api.ErrScope},
		{turned(func(c *api.Claim) { c.Rights = 2 }), "data", 0, api.ErrScope, api.OK},
		{turned(func(c *api.Claim) {}), "logs", 50, api.ErrScope, api.ErrScope},
		{turned(func(c *api.Claim) { c.Name = "" }), "logs", 50, api.ErrName, api.ErrName},
		{turned(func(c *api.Claim) {}), "data", 51, api.ErrExpired, api.ErrExpired},
		{turned(func(c *api.Claim) {}), "data", math.MaxUint32, api.ErrExpired, api.ErrExpired},
		{turned(func(c *api.Claim) { c.Gen = 2 }), "data", 50, api.ErrRevoked, api.ErrRevoked},
		{turned(func(c *api.Claim) { c.Gen = 0 }), "data", 50, api.ErrRevoked, api.ErrRevoked},
		{turned(func(c *api.Claim) { c.Gen = 0 }), "logs", 51, api.ErrRevoked, api.ErrRevoked},
		{turned(func(c *api.Claim) { c.Place = 1 }), "data", 50, api.ErrToken, api.ErrToken},
		{turned(func(c *api.Claim) { c.Place = 3 }), "logs", 99, api.ErrToken, api.ErrToken},
		{stranger, "data", 50, api.ErrToken, api.ErrToken},
		{api.Token{Claim: claim}, "data", 50, api.ErrToken, api.ErrToken},
	} {
		x := withVolume(t)
		x.tick = y.tick
		read := x.asks(x.bytesOf(api.Ask{Kind: api.AskRead, Token: y.tok, Volume: y.volume, At: 3}))
		write := x.asks(x.bytesOf(api.Ask{Kind: api.AskWrite, Token: y.tok, Volume: y.volume, At: 3}))
		if y.read == api.OK {
			x.want(read, blockOf(2, 0))
		} else {
			x.want(read, err(2, y.read))
		}
		if y.write == api.OK {
			x.want(write)
			write = x.slot(0)
		}
		x.want(write, err(3, y.write))
		// With the primary down what caps says goes ahead.
		x.crash(0)
		for _, kind := range []int{api.AskRead, api.AskWrite} {
			e := []api.Errno{api.AskRead: y.read, api.AskWrite: y.write}[kind]
			if e == api.OK || e == api.ErrName {
				e = api.ErrDown
			}
			x.want(x.asks(x.bytesOf(api.Ask{Kind: kind, Token: y.tok, Volume: y.volume, At: 3})), err(x.id, e))
		}
	}
}

// P27.2: reads: no such volume, no such place, each block; the primary alone is asked.
func TestRead(t *testing.T) {
	x := withVolume(t)
	for at := range 4 {
		x.want(x.writes("data", at, api.Block{byte(10 + at)}))
		x.want(x.slot(0), ok(x.id))
	}
	x.crash(1)
	for at := range 4 {
		x.want(x.reads("data", at), blockOf(x.id, byte(10+at)))
	}
	for _, at := range []int{4, 5, 255} {
		x.want(x.reads("data", at), err(x.id, api.ErrRange))
		x.want(x.reads("logs", at), err(x.id, api.ErrName))
	}
	x.want(x.reads("logs", 0), err(x.id, api.ErrName))
	x.crash(0)
	x.boot(1)
	for at := range 6 {
		x.want(x.reads("data", at), err(x.id, api.ErrDown))
		x.want(x.reads("logs", at), err(x.id, api.ErrDown))
	}
}

// P27.2: with Sync a write waits for its ack; till then what was there is read. Both nodes have it then.
func TestWrite(t *testing.T) {
	x := withVolume(t)
	x.want(x.writes("data", 1, api.Block{7}))
	x.wantDesk(0, 1, true, 1)
	x.want(x.reads("data", 1), blockOf(3, 0))
	x.wantLabel(0, api.Label{Epoch: 1, Seq: 1, Next: 3, Dirty: 0x0004, Last: 0x001f})
	x.wantLabel(1, api.Label{Epoch: 1, Seq: 1, Next: 2, Last: 0x001f})
	x.want(x.slot(0), ok(2))
	x.wantDesk(0, 1, true, 0)
	x.want(x.reads("data", 1), blockOf(4, 7))
	for n := range 2 {
		x.wantLabel(n, api.Label{Epoch: 1, Seq: 2, Next: 3, Last: 0x0004})
		x.wantBlock(n, 2, 7)
	}
}

// P27.2: a write to a volume or a place that there isn't is answered when it is its turn: at once, if nothing is out; the next one goes on.
func TestWriteErrors(t *testing.T) {
	x := withVolume(t)
	x.want(x.writes("logs", 0, api.Block{1}), err(2, api.ErrName))
	x.want(x.writes("data", 4, api.Block{1}), err(3, api.ErrRange))
	x.wantLabel(0, api.Label{Epoch: 1, Seq: 1, Next: 2, Last: 0x001f})
	x.want(x.writes("data", 0, api.Block{5}))
	x.want(x.writes("data", 255, api.Block{1}))
	x.want(x.writes("logs", 9, api.Block{1}))
	x.want(x.writes("data", 0, api.Block{6}))
	x.wantDesk(0, 1, true, 4)
	x.want(x.slot(0), ok(4), err(5, api.ErrRange), err(6, api.ErrName))
	x.wantDesk(0, 1, true, 1)
	x.want(x.slot(0), ok(7))
	x.wantBlock(1, 1, 6)
}

// P27.2: the queue's fifth: ErrQueue, of writes and lines alike; it changes nothing.
func TestQueueFull(t *testing.T) {
	x := withVolume(t)
	for k := range 4 {
		x.want(x.writes("data", k, api.Block{byte(k + 1)}))
		x.wantDesk(0, 1, true, k+1)
	}
	x.want(x.writes("data", 0, api.Block{99}), err(6, api.ErrQueue))
	x.want(x.says("make b 1"), err(7, api.ErrQueue))
	x.want(x.says("gone data"), err(8, api.ErrQueue))
	x.want(x.reads("data", 0), blockOf(9, 0))
	for k := range 4 {
		x.wantDesk(0, 1, true, 4-k)
		x.want(x.slot(0), ok(k+2))
	}
	x.want(x.slot(0))
	x.want(x.writes("data", 0, api.Block{99}))
	x.want(x.slot(0), ok(10))
	x.wantBlock(0, 1, 99)
}

// P27.2: without Sync a write is done at once, by the primary alone.
func TestWriteAlone(t *testing.T) {
	x := alone(t)
	x.want(x.writes("data", 0, api.Block{5}), ok(3))
	x.wantDesk(0, 1, false, 0)
	x.want(x.reads("data", 0), blockOf(4, 5))
	x.wantBlock(1, 1, 0)
	x.want(x.writes("logs", 0, api.Block{5}), err(5, api.ErrName))
	x.want(x.writes("data", 4, api.Block{5}), err(6, api.ErrRange))
	for k := range 6 {
		x.want(x.writes("data", 1, api.Block{byte(k)}), ok(7+k))
	}
	// Numbers: 2 the write that was out, 3 it alone, 4 the sync, 5 and 6 to 11 the others.
	x.wantLabel(0, api.Label{Epoch: 1, Seq: 11, Next: 12, Dirty: 0x0016, Last: 0x0004})
	x.wantLabel(1, api.Label{Epoch: 1, Seq: 1, Next: 2, Last: 0x001f})
}

// P27.2: the primary is down: ErrDown, of reads, writes, make and gone; what asks no node is answered.
func TestPrimaryDown(t *testing.T) {
	for _, x := range []*tenant{withVolume(t), alone(t)} {
		x.crash(0)
		x.want(x.reads("data", 0), err(x.id, api.ErrDown))
		x.want(x.writes("data", 0, api.Block{1}), err(x.id, api.ErrDown))
		x.want(x.writes("logs", 9, api.Block{1}), err(x.id, api.ErrDown))
		x.want(x.says("make b 1"), err(x.id, api.ErrDown))
		x.want(x.says("make data 9"), err(x.id, api.ErrDown))
		x.want(x.says("gone data"), err(x.id, api.ErrDown))
		x.want(x.says("revoke"), ok(x.id))
		x.want(x.says("nonsense"), err(x.id, api.ErrForm))
		x.want(x.slot(0))
		x.want(x.cut())
	}
}

// P27.2: a disk that goes down behind the cell's back is found by a read: what waits is lost, the read is ErrDown.
func TestReadFalls(t *testing.T) {
	x := withVolume(t)
	x.want(x.writes("data", 0, api.Block{5}))
	x.want(x.says("make b 1"))
	x.Cell.Node(0).Fuse(0)
	x.Cell.Node(0).Flush()
	x.wantDown(false, false)
	x.want(x.reads("data", 0), err(2, api.ErrLost), err(3, api.ErrLost), err(4, api.ErrDown))
	x.wantDown(true, false)
	x.wantDesk(0, 1, true, 0)
	x.want(x.reads("data", 0), err(5, api.ErrDown))
	x.want(x.boot(0))
	x.wantDesk(0, 1, false, 0)
}

// P27.2: the same, found by the head of the queue, with Sync and without.
func TestHeadFalls(t *testing.T) {
	for _, x := range []*tenant{withVolume(t), alone(t)} {
		x.Cell.Node(0).Fuse(0)
		x.Cell.Node(0).Flush()
		x.want(x.says("make b 1"), err(x.id, api.ErrLost))
		x.wantDown(true, false)
		x.want(x.says("make b 1"), err(x.id, api.ErrDown))
	}
}

// P27.3: lines that are none.
func TestLineForm(t *testing.T) {
	x := newTenant(t)
	for k, s := range []string{"", " ", "make", "make data", "Make data 1", "make data 01", "make * 1", "mint a 1", "promote", "promote x", "status ", strings.Repeat("a", 201), "\x00", "force -1", "promote 4294967296"} {
		x.want(x.says(s), err(k+1, api.ErrForm))
	}
	x.want(x.says("status"), data(x.id, 0, 1, 0, 0, 0, 1, 0, 0))
}

// P27.3: Make and Gone wait like writes, and are done on both nodes; ops' errors come when it is their turn.
func TestMakeGone(t *testing.T) {
	x := newTenant(t)
	x.want(x.says("make data 2"))
	x.want(x.says("make data 1"))
	x.want(x.says("make logs 5"))
	x.want(x.says("gone x"))
	x.wantDesk(0, 1, true, 4)
	x.want(x.slot(0), ok(1), err(2, api.ErrName), err(3, api.ErrRange), err(4, api.ErrName))
	x.want(x.says("make b 4"))
	x.want(x.slot(0), ok(5))
	x.want(x.says("make c 4"))
	x.want(x.slot(0), ok(6))
	x.want(x.says("make d 1"), err(7, api.ErrQuota))
	x.want(x.says("make d 4294967295"), err(8, api.ErrRange))
	x.want(x.says("make d 0"), err(9, api.ErrRange))
	x.want(x.says("gone b"))
	x.want(x.slot(0), ok(10))
	x.want(x.says("make d 4"))
	x.want(x.slot(0), ok(11))
	if x.blocks(0) != x.blocks(1) {
		t.Error("two tables")
	}
	x.want(x.reads("b", 0), err(12, api.ErrName))
	x.want(x.reads("d", 3), blockOf(13, 0))
}

// P27.3: a volume that is gone and made anew has zeros.
func TestMadeAnew(t *testing.T) {
	x := withVolume(t)
	x.writes("data", 2, api.Block{8})
	x.says("gone data")
	x.says("make new 3")
	x.want(x.slot(0), ok(2))
	x.want(x.slot(0), ok(3))
	x.want(x.reads("new", 2), err(5, api.ErrName))
	x.want(x.slot(0), ok(4))
	x.want(x.reads("new", 2), blockOf(6, 0))
}

// P27.3: Mint's token is taken, till it is revoked; tokens of the new generation are.
func TestMint(t *testing.T) {
	x := withVolume(t)
	for _, y := range []struct {
		line  string
		claim api.Claim
	}{
		{"mint data 1 20", api.Claim{Place: 2, Name: "data", Rights: 1, Until: 20, Gen: 1}},
		{"mint * 3 4294967295", api.Claim{Place: 2, Rights: 3, Until: math.MaxUint32, Gen: 1}},
		{"mint zzzz 2 0", api.Claim{Place: 2, Name: "zzzz", Rights: 2, Gen: 1}},
	} {
		want, _ := token.Encode(x.token(y.claim))
		x.want(x.says(y.line), data(x.id, want...))
	}
	for _, s := range []string{"mint data 0 20", "mint data 4 20", "mint data 4294967295 20", "mint * 0 0"} {
		x.want(x.says(s), err(x.id, api.ErrForm))
	}
	minted := func(s string) api.Token {
		tok, e := token.Decode(x.says(s)[0].Data)
		if e != api.OK {
			t.Fatalf("%q: error %d", s, e)
		}
		return tok
	}
	read := func(tok api.Token) []api.Reply {
		return x.asks(x.bytesOf(api.Ask{Kind: api.AskRead, Token: tok, Volume: "data"}))
	}
	old := minted("mint data 1 20")
	x.want(read(old), blockOf(x.id, 0))
	x.want(x.says("revoke"), ok(x.id))
	x.want(read(old), err(x.id, api.ErrRevoked))
	x.want(read(x.all), err(x.id, api.ErrRevoked))
	next := minted("mint data 1 20")
	if next.Gen != 2 {
		t.Errorf("%v", next.Claim)
	}
	x.want(read(next), blockOf(x.id, 0))
	x.want(x.says("revoke"), ok(x.id))
	x.want(read(next), err(x.id, api.ErrRevoked))
	x.want(read(minted("mint data 1 20")), blockOf(x.id, 0))
	// Neither asks a node.
	x.crash(0)
	x.crash(1)
	if last := minted("mint * 3 9"); last.Gen != 3 {
		t.Errorf("%v", last.Claim)
	}
	x.want(x.says("revoke"), ok(x.id))
}

// P27.3: a revoke in the middle of a write that waits changes nothing of it.
func TestRevokeOfWaiting(t *testing.T) {
	x := withVolume(t)
	x.want(x.writes("data", 0, api.Block{3}))
	x.want(x.says("revoke"), ok(3))
	x.want(x.slot(0), ok(2))
	x.wantBlock(1, 1, 3)
}

// P27.3: Status in each state: primary, epoch, Sync, how many wait, how many blocks are dirty.
func TestStatus(t *testing.T) {
	x := newTenant(t)
	status := func(b ...byte) {
		t.Helper()
		x.want(x.says("status"), data(x.id, b...))
	}
	status(0, 1, 0, 0, 0, 1, 0, 0)
	x.says("make data 4")
	status(0, 1, 0, 0, 0, 1, 1, 5)
	x.writes("data", 0, api.Block{1})
	x.writes("data", 1, api.Block{1})
	status(0, 1, 0, 0, 0, 1, 3, 5)
	x.slot(0)
	status(0, 1, 0, 0, 0, 1, 2, 1)
	x.slot(0)
	x.slot(0)
	status(0, 1, 0, 0, 0, 1, 0, 0)
	x.writes("data", 2, api.Block{1})
	x.crash(1)
	x.slot(0)
	x.slot(0)
	status(0, 1, 0, 0, 0, 1, 1, 1)
	x.slot(0)
	status(0, 1, 0, 0, 0, 0, 0, 1)
	x.writes("data", 0, api.Block{1})
	status(0, 1, 0, 0, 0, 0, 0, 2)
	x.crash(0)
	status(0, 1, 0, 0, 0, 0, 0, 255)
	x.boot(1)
	status(0, 1, 0, 0, 0, 0, 0, 255)
	x.says("force 1")
	status(1, 2, 0, 0, 0, 0, 0, 12)
	for k := range 300 {
		x.boot(0)
		x.says("force " + string([]byte{byte('0' + k%2)}))
	}
	status(1, 46, 1, 0, 0, 0, 0, 12)
}

// Rule 2: what is handed in is neither changed nor kept; what is told may be changed.
func TestNothingIsShared(t *testing.T) {
	key := append([]byte(aKey), 0, 0, 0)
	c, _ := cell.New(2, key[:len(aKey)])
	for k := range key {
		key[k] = 'x'
	}
	x := newTenant(t)
	x.Cell = c
	x.says("make data 1")
	x.slot(0)
	b := x.bytesOf(api.Ask{Kind: api.AskWrite, Token: x.all, Volume: "data", Data: api.Block{4}})
	room := append(slices.Clone(b), 1, 2, 3)
	ahead := slices.Clone(room)
	x.want(x.asks(room[:len(b)]))
	if !bytes.Equal(room, ahead) {
		t.Error("changed")
	}
	clear(room)
	x.want(x.slot(0), ok(2))
	for range 2 {
		got := x.reads("data", 0)
		x.want(got, blockOf(x.id, 4))
		clear(got[0].Data[:cap(got[0].Data)])
		clear(got[:cap(got)])
	}
	log := x.Cell.Log()
	clear(log[:cap(log)])
	x.want(x.says("status"), data(x.id, 0, 1, 0, 0, 0, 1, 0, 0))
	keep := []byte{1, 1, 1, 9, 9}
	x.crash(1, keep[:3]...)
	x.boot(1, keep[:3]...)
	if !bytes.Equal(keep, []byte{1, 1, 1, 9, 9}) {
		t.Error("changed")
	}
}
