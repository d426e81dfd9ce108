package cell_test

import (
	"bytes"
	"slices"
	"testing"

	"tollhouse/api"
	"tollhouse/ask"
	"tollhouse/audit"
	"tollhouse/caps"
	"tollhouse/cell"
	"tollhouse/desk"
	"tollhouse/node"
)

// aKey is the key of most cells.
const aKey = "a tenant's key"

// tenant is a cell, and all that its client and its admin know. Whatever it tells is logged beside it, and held against its own log.
type tenant struct {
	t *testing.T
	*cell.Cell
	tick  uint32
	all   api.Token // for all volumes and rights
	lines map[int][]byte
	id    int
	log   audit.Log
}

// newTenant is one of a new cell, of place 2.
func newTenant(t *testing.T) *tenant {
	t.Helper()
	c, e := cell.New(2, []byte(aKey))
	if e != api.OK || c == nil {
		t.Fatalf("no cell: error %d", e)
	}
	x := &tenant{t: t, Cell: c, tick: 10, lines: map[int][]byte{}}
	x.all = x.token(api.Claim{Place: 2, Rights: 3, Until: 99, Gen: 1})
	return x
}

// token is that claim's, under the tenant's key.
func (x *tenant) token(c api.Claim) api.Token {
	x.t.Helper()
	tok, e := caps.Mint([]byte(aKey), c)
	if e != api.OK {
		x.t.Fatalf("%v: error %d", c, e)
	}
	return tok
}

// hears logs the replies of a call, and holds the cell's log against that.
func (x *tenant) hears(l []api.Reply) []api.Reply {
	x.t.Helper()
	for _, r := range l {
		asked, ok := x.lines[r.Id]
		if !ok {
			x.t.Fatalf("%v: answered without being asked, or twice", r)
		}
		delete(x.lines, r.Id)
		x.log.Add(asked, r)
	}
	if got := x.Cell.Log(); !slices.Equal(got, x.log.Entries()) {
		x.t.Fatalf("the log is %v, want %v", got, x.log.Entries())
	}
	return l
}

// asks hands in a request's bytes.
func (x *tenant) asks(b []byte) []api.Reply {
	x.t.Helper()
	x.id++
	x.lines[x.id] = slices.Clone(b)
	return x.hears(x.Cell.Ask(x.tick, b))
}

// says hands in a line.
func (x *tenant) says(s string) []api.Reply {
	x.t.Helper()
	x.id++
	x.lines[x.id] = []byte(s)
	return x.hears(x.Cell.Line(x.tick, s))
}

// bytesOf are a request's.
func (x *tenant) bytesOf(a api.Ask) []byte {
	x.t.Helper()
	b, e := ask.Encode(a)
	if e != api.OK {
		x.t.Fatalf("%v: error %d", a, e)
	}
	return b
}

// reads and writes ask for a block of a volume, by the token for all.
func (x *tenant) reads(volume string, at int) []api.Reply {
	x.t.Helper()
	return x.asks(x.bytesOf(api.Ask{Kind: api.AskRead, Token: x.all, Volume: volume, At: at}))
}

func (x *tenant) writes(volume string, at int, data api.Block) []api.Reply {
	x.t.Helper()
	return x.asks(x.bytesOf(api.Ask{Kind: api.AskWrite, Token: x.all, Volume: volume, At: at, Data: data}))
}

// slot is one of that fate, the link whole.
func (x *tenant) slot(fate int) []api.Reply {
	x.t.Helper()
	if e := x.Fate(fate); e != api.OK {
		x.t.Fatalf("fate %d: error %d", fate, e)
	}
	return x.hears(x.Cell.Slot(true))
}

// cut is a slot while the link is cut.
func (x *tenant) cut() []api.Reply {
	x.t.Helper()
	return x.hears(x.Cell.Slot(false))
}

// crash and boot let a node be down, and up again; keep tells which loose writes survive.
func (x *tenant) crash(n int, keep ...byte) []api.Reply {
	x.t.Helper()
	return x.hears(x.Cell.Crash(n, keep))
}

func (x *tenant) boot(n int, keep ...byte) []api.Reply {
	x.t.Helper()
	return x.hears(x.Cell.Boot(n, keep))
}

// err, ok and data are replies.
func err(id int, e api.Errno) api.Reply { return api.Reply{Id: id, E: e} }

func ok(id int) api.Reply { return api.Reply{Id: id} }

func data(id int, b ...byte) api.Reply { return api.Reply{Id: id, Data: b} }

// blockOf is a reply of a block that begins with b.
func blockOf(id int, b byte) api.Reply {
	return data(id, slices.Concat([]byte{b}, make([]byte, 31))...)
}

// want holds what was told against those replies.
func (x *tenant) want(got []api.Reply, want ...api.Reply) {
	x.t.Helper()
	if !slices.EqualFunc(got, want, func(a, b api.Reply) bool { return a.Id == b.Id && a.E == b.E && bytes.Equal(a.Data, b.Data) }) {
		x.t.Errorf("told %v, want %v", got, want)
	}
}

// wantDesk holds the desk, and how many wait, against those.
func (x *tenant) wantDesk(primary int, epoch uint32, sync bool, queued int) {
	x.t.Helper()
	if got, want := x.Cell.Desk(), (desk.Desk{Primary: primary, Epoch: epoch, Sync: sync}); got != want || x.Queued() != queued {
		x.t.Errorf("%v, %d wait, want %v, %d", got, x.Queued(), want, queued)
	}
}

// wantLabel holds the label of node n against that.
func (x *tenant) wantLabel(n int, want api.Label) {
	x.t.Helper()
	if x.Cell.Node(n) == nil {
		x.t.Errorf("node %d is down", n)
		return
	}
	if got := x.Cell.Node(n).Label(); got != want {
		x.t.Errorf("node %d: label %v, want %v", n, got, want)
	}
}

// wantDown holds which nodes are down.
func (x *tenant) wantDown(zero, one bool) {
	x.t.Helper()
	if (x.Cell.Node(0) == nil) != zero || (x.Cell.Node(1) == nil) != one {
		x.t.Errorf("down: %t, %t, want %t, %t", x.Cell.Node(0) == nil, x.Cell.Node(1) == nil, zero, one)
	}
}

// wantBlock holds a block of node n against one that begins with b.
func (x *tenant) wantBlock(n, i int, b byte) {
	x.t.Helper()
	if got := x.block(n, i); got != (api.Block{b}) {
		x.t.Errorf("node %d: block %d: %x, want %x", n, i, got, b)
	}
}

// block is one of node n.
func (x *tenant) block(n, i int) api.Block {
	x.t.Helper()
	b, e := x.Cell.Node(n).Block(i)
	if e != api.OK {
		x.t.Errorf("node %d: block %d: error %d", n, i, e)
	}
	return b
}

// blocks are all of node n.
func (x *tenant) blocks(n int) [api.Blocks]api.Block {
	x.t.Helper()
	var all [api.Blocks]api.Block
	for i := range all {
		all[i] = x.block(n, i)
	}
	return all
}

// sectors are all of node n's disk.
func sectors(n *node.Node) []api.Block {
	var all []api.Block
	for i := range n.Len() {
		b, _ := n.Read(i)
		all = append(all, b)
	}
	return all
}

// withVolume is a tenant of a volume "data" of blocks 1 to 4, on both nodes; Id 1 is used up.
func withVolume(t *testing.T) *tenant {
	t.Helper()
	x := newTenant(t)
	x.want(x.says("make data 4"))
	x.want(x.slot(0), ok(1))
	x.wantDesk(0, 1, true, 0)
	return x
}

// alone is withVolume, without Sync: the link was cut for three slots while a write of 9 to the block 4 was out; Id 2 is used up, and that block is dirty. A sync of it is out.
func alone(t *testing.T) *tenant {
	t.Helper()
	x := withVolume(t)
	x.want(x.writes("data", 3, api.Block{9}))
	x.want(x.cut())
	x.want(x.cut())
	x.want(x.cut(), ok(2))
	x.wantDesk(0, 1, false, 0)
	return x
}
