package cell_test

import (
	"testing"

	"tollhouse/api"
)

// way is how a slot goes: its fate, whether the link is whole, and whether the other node is open.
type way struct {
	fate        int
	whole, open bool
}

// ways are all of them.
func ways() []way {
	var all []way
	for fate := range 16 {
		for bits := range 4 {
			all = append(all, way{fate, bits&1 == 0, bits&2 == 0})
		}
	}
	return all
}

// comes tells whether a packet gets through at all, arrives whether the one that is out does, and acked whether its answer does.
func (w way) comes() bool   { return w.whole && w.open }
func (w way) arrives() bool { return w.comes() && w.fate&1 == 0 }
func (w way) acked() bool   { return w.arrives() && w.fate&4 == 0 }
func (w way) late() bool    { return w.comes() && w.fate&8 != 0 }

// goes lets x have a slot of that way.
func (x *tenant) goes(w way) []api.Reply {
	x.t.Helper()
	if !w.open {
		x.want(x.crash(1))
	}
	if w.whole {
		return x.slot(w.fate)
	}
	x.Fate(w.fate)
	return x.cut()
}

// upAgain boots the other node, if it is down.
func (x *tenant) upAgain() {
	x.t.Helper()
	x.want(x.boot(1))
	x.wantDown(false, false)
}

// P27.4: nothing is out: nothing, whatever the fate is; no slot is missed.
func TestSlotOfNothing(t *testing.T) {
	for _, w := range ways() {
		x := withVolume(t)
		ahead := sectors(x.Cell.Node(1))
		for range 5 {
			x.want(x.goes(w))
		}
		x.wantDesk(0, 1, true, 0)
		x.upAgain()
		for i, b := range sectors(x.Cell.Node(1)) {
			if b != ahead[i] {
				t.Errorf("%v: sector %d is written", w, i)
			}
		}
	}
}

// P27.4: each way of a slot of an op: what arrives is done by the other node, and what is acked by the primary as well; else it waits.
func TestSlotOfOp(t *testing.T) {
	for _, w := range ways() {
		x := withVolume(t)
		x.writes("data", 0, api.Block{7})
		got := x.goes(w)
		if w.acked() {
			x.want(got, ok(2))
			x.wantDesk(0, 1, true, 0)
			x.wantLabel(0, api.Label{Epoch: 1, Seq: 2, Next: 3, Last: 2})
			x.wantBlock(0, 1, 7)
		} else {
			x.want(got)
			x.wantDesk(0, 1, true, 1)
			x.wantLabel(0, api.Label{Epoch: 1, Seq: 1, Next: 3, Dirty: 2, Last: 0x1f})
			x.wantBlock(0, 1, 0)
		}
		x.upAgain()
		if w.arrives() {
			x.wantLabel(1, api.Label{Epoch: 1, Seq: 2, Next: 3, Last: 2})
			x.wantBlock(1, 1, 7)
		} else {
			x.wantLabel(1, api.Label{Epoch: 1, Seq: 1, Next: 2, Last: 0x1f})
			x.wantBlock(1, 1, 0)
		}
		if !w.acked() {
			// It waits for two slots more, and then the primary does it alone.
			x.want(x.cut())
			x.wantDesk(0, 1, true, 1)
			x.want(x.cut(), ok(2))
			x.wantDesk(0, 1, false, 0)
			x.wantBlock(0, 1, 7)
		}
	}
}

// P27.4: each way of a slot of a sync, the early one an op that never arrived: what is acked is not dirty any more, and nothing dirty is Sync.
func TestSlotOfSync(t *testing.T) {
	for _, w := range ways() {
		x := alone(t)
		x.want(x.goes(w))
		x.upAgain()
		x.wantDesk(0, 1, w.acked(), 0)
		l := api.Label{Epoch: 1, Seq: 3, Next: 5, Dirty: 0x10, Last: 0x10}
		if w.acked() {
			l.Dirty = 0
		}
		x.wantLabel(0, l)
		switch {
		case w.arrives():
			x.wantLabel(1, api.Label{Epoch: 1, Seq: 4, Next: 5, Last: 0x10})
			x.wantBlock(1, 4, 9)
		case w.late():
			x.wantLabel(1, api.Label{Epoch: 1, Seq: 2, Next: 3, Last: 0x10})
			x.wantBlock(1, 4, 9)
		default:
			x.wantLabel(1, api.Label{Epoch: 1, Seq: 1, Next: 2, Last: 0x1f})
			x.wantBlock(1, 4, 0)
		}
		// No slot is missed without Sync, and the same packet is acked later.
		for range 5 {
			x.want(x.cut())
		}
		x.want(x.slot(0))
		x.wantDesk(0, 1, true, 0)
		x.wantBlock(1, 4, 9)
	}
}

// P27.4: each way of a slot of a sync that was touched: its block stays dirty, and is sent once more, as it is then.
func TestSlotOfTouched(t *testing.T) {
	for _, w := range ways() {
		x := alone(t)
		x.want(x.writes("data", 3, api.Block{5}), ok(3))
		x.want(x.goes(w))
		x.upAgain()
		x.wantDesk(0, 1, false, 0)
		l := api.Label{Epoch: 1, Seq: 5, Next: 6, Dirty: 0x10, Last: 0x10}
		if w.acked() {
			l.Next = 7
		}
		x.wantLabel(0, l)
		if w.arrives() || w.late() {
			x.wantBlock(1, 4, 9)
		} else {
			x.wantBlock(1, 4, 0)
		}
		if !w.acked() {
			x.want(x.slot(0))
			x.wantDesk(0, 1, false, 0)
			x.wantBlock(1, 4, 9)
		}
		x.want(x.slot(0))
		x.wantDesk(0, 1, true, 0)
		x.wantBlock(1, 4, 5)
		x.wantLabel(0, api.Label{Epoch: 1, Seq: 5, Next: 7, Last: 0x10})
		x.wantLabel(1, api.Label{Epoch: 1, Seq: 6, Next: 7, Last: 0x10})
	}
}

// P27.4: a sync of another block than those that are written meanwhile is not touched.
func TestSlotOfNotTouched(t *testing.T) {
	x := alone(t)
	x.want(x.writes("data", 0, api.Block{5}), ok(3))
	x.want(x.says("make b 2"), ok(4))
	x.want(x.slot(0))
	// Blocks 5 and 6 are the new volume's, 0 is the table, which comes last.
	x.wantLabel(0, api.Label{Epoch: 1, Seq: 6, Next: 8, Dirty: 0x63, Last: 0x61})
	x.wantBlock(1, 4, 9)
	for _, dirty := range []uint16{0x61, 0x41, 0x01} {
		x.want(x.slot(0))
		x.wantDesk(0, 1, false, 0)
		if l := x.Cell.Node(0).Label(); l.Dirty != dirty {
			t.Errorf("%04x dirty, want %04x", l.Dirty, dirty)
		}
	}
	x.want(x.slot(0))
	x.wantDesk(0, 1, true, 0)
	if x.blocks(0) != x.blocks(1) {
		t.Error("other blocks")
	}
}

// P27.4: Patience: three slots without an answer, whatever keeps it away; each packet is waited for anew.
func TestPatience(t *testing.T) {
	lost, deaf := func(x *tenant) []api.Reply { return x.slot(1) }, func(x *tenant) []api.Reply { return x.slot(4) }
	cut, late := func(x *tenant) []api.Reply { return x.cut() }, func(x *tenant) []api.Reply { return x.slot(13) }
	down := func(x *tenant) []api.Reply {
		x.crash(1)
		l := x.slot(0)
		x.boot(1)
		return l
	}
	all := []func(x *tenant) []api.Reply{lost, deaf, cut, late, down}
	for i, first := range all {
		for j, second := range all {
			for k, third := range all {
				x := withVolume(t)
				for at := range 2 {
					x.writes("data", at, api.Block{byte(at + 1)})
				}
				x.want(first(x))
				x.want(second(x))
				x.wantDesk(0, 1, true, 2)
				x.want(x.slot(0), ok(2))
				// The next one has all its slots still.
				x.want(first(x))
				x.want(second(x))
				x.wantDesk(0, 1, true, 1)
				x.writes("data", 2, api.Block{3})
				x.want(third(x), ok(3), ok(4))
				x.wantDesk(0, 1, false, 0)
				if l := x.Cell.Node(0).Label(); l.Dirty != 0x0c {
					t.Errorf("%d, %d, %d: %v", i, j, k, l)
				}
				for at := range 3 {
					x.wantBlock(0, at+1, byte(at+1))
				}
			}
		}
	}
}

// P27.4: when Sync is over all that waits is done, in order, its errors too.
func TestPatienceOfQueue(t *testing.T) {
	x := withVolume(t)
	x.writes("data", 0, api.Block{1})
	x.says("gone x")
	x.says("make b 2")
	x.writes("b", 1, api.Block{2})
	x.want(x.cut())
	x.want(x.cut())
	x.want(x.cut(), ok(2), err(3, api.ErrName), ok(4), ok(5))
	x.wantBlock(0, 6, 2)
	for range 4 {
		x.want(x.slot(0))
	}
	x.wantDesk(0, 1, true, 0)
	if x.blocks(0) != x.blocks(1) {
		t.Error("other blocks")
	}
}

// P27.4: an op that was lost for three slots comes late, behind the same one done alone, and behind others to its block: it is done by the other node, but what is dirty comes still.
func TestLateOp(t *testing.T) {
	x := alone(t)
	x.want(x.writes("data", 3, api.Block{8}), ok(3))
	x.want(x.slot(8 + 1))
	x.wantBlock(1, 4, 9)
	x.wantLabel(1, api.Label{Epoch: 1, Seq: 2, Next: 3, Last: 0x10})
	// The sync that was out is touched.
	x.want(x.slot(8))
	x.wantBlock(1, 4, 9)
	x.want(x.slot(8))
	x.wantDesk(0, 1, true, 0)
	x.wantBlock(1, 4, 8)
	// What comes late behind that is stale.
	x.want(x.writes("data", 0, api.Block{1}))
	x.want(x.slot(8), ok(4))
	x.wantBlock(1, 4, 8)
	x.wantBlock(1, 1, 1)
}

// P27.4: with nothing out ahead of it, there is none that comes late.
func TestLateOfNone(t *testing.T) {
	x := newTenant(t)
	x.says("make a 1")
	x.want(x.slot(8 + 1))
	x.wantLabel(1, api.Label{Epoch: 1, Next: 1})
	x.want(x.slot(8), ok(1))
}

// P27.4: the other node falls, at each of its writes and flushes, by an op, by one that comes twice, by one that comes late: it answers nothing, a slot is missed.
func TestOtherFalls(t *testing.T) {
	const steps = 8 // of the Apply of one put
	for fate := range 16 {
		if fate&1 != 0 {
			continue
		}
		for fuse := range steps + 1 {
			x := withVolume(t)
			x.writes("data", 0, api.Block{7})
			x.Fuse(1, fuse)
			got := x.slot(fate)
			falls := fuse < steps
			x.wantDown(false, falls)
			if falls || fate&4 != 0 {
				x.want(got)
				x.wantDesk(0, 1, true, 1)
				x.want(x.cut())
				x.want(x.cut(), ok(2))
				x.wantDesk(0, 1, false, 0)
			} else {
				x.want(got, ok(2))
			}
		}
	}
}

// P27.4: the other node falls by what comes late: it does not take the one that is out.
func TestOtherFallsLate(t *testing.T) {
	const steps = 8
	for fuse := range 2*steps + 1 {
		for _, fate := range []int{8, 8 + 1, 8 + 2, 8 + 4} {
			x := alone(t)
			x.Fuse(1, fuse)
			x.want(x.slot(fate))
			lost := fate == 8+1
			x.wantDown(false, fuse < steps || fuse < 2*steps && !lost)
			x.wantDesk(0, 1, fuse == 2*steps && fate&5 == 0, 0)
			x.boot(1)
			want := uint32(4)
			switch {
			case fuse < 5: // neither is in the log
				want = 1
			case fuse < steps+5 || lost:
				want = 2
			}
			// What is in the log is carried out by the boot; with fuse 5 the header is flushed.
			if l := x.Cell.Node(1).Label(); l.Seq != want && !(fuse == 4 || fuse == steps+4) {
				t.Errorf("fuse %d, fate %d: %v, want %d", fuse, fate, l, want)
			}
		}
	}
}

// P27.4: the primary falls by the Apply of what was acked, at each write and flush: all that waits is lost.
func TestPrimaryFallsAcked(t *testing.T) {
	const steps = 8
	for fuse := range steps + 1 {
		x := withVolume(t)
		x.writes("data", 0, api.Block{7})
		x.says("status")
		x.writes("data", 1, api.Block{8})
		x.Fuse(0, fuse)
		got := x.slot(0)
		if fuse < steps {
			x.want(got, err(2, api.ErrLost), err(4, api.ErrLost))
			x.wantDown(true, false)
			x.wantDesk(0, 1, true, 0)
		} else {
			// The next one's label is what it falls by.
			x.want(got, ok(2), err(4, api.ErrLost))
			x.wantDown(true, false)
		}
		x.wantBlock(1, 1, 7)
		x.want(x.slot(0))
		x.want(x.boot(0))
		// Of the next one nothing is left, not even what it made dirty.
		x.wantDesk(0, 1, fuse == steps, 0)
		for range 3 {
			x.want(x.slot(0))
		}
		x.wantDesk(0, 1, true, 0)
		if x.blocks(0) != x.blocks(1) {
			t.Errorf("fuse %d: other blocks", fuse)
		}
	}
}

// P27.4: the primary falls by the label of what was synced.
func TestPrimaryFallsSynced(t *testing.T) {
	for fuse := range 3 {
		for keep := range 2 {
			x := alone(t)
			x.Fuse(0, fuse)
			x.want(x.slot(0))
			x.wantDown(fuse < 2, false)
			x.wantDesk(0, 1, fuse == 2, 0)
			if fuse == 2 {
				continue
			}
			x.want(x.slot(0))
			x.want(x.boot(0, byte(keep)))
			// Where the label was kept nothing is dirty, so it is Sync when it goes on.
			x.wantDesk(0, 1, fuse == 1 && keep == 1, 0)
			x.want(x.slot(0))
			x.wantDesk(0, 1, true, 0)
		}
	}
}

// P27.4: the primary falls by the label of an op that is to be sent, by that of a sync, and by the Apply of one that it does alone.
func TestPrimaryFallsGoingOn(t *testing.T) {
	for fuse := range 3 {
		x := withVolume(t)
		x.Fuse(0, fuse)
		got := x.writes("data", 0, api.Block{7})
		x.wantDown(fuse < 2, false)
		if fuse < 2 {
			x.want(got, err(2, api.ErrLost))
		} else {
			x.want(got)
		}
	}
	// Alone: two for the label, eight for the Apply; no more, as a sync is out.
	for fuse := range 11 {
		x := alone(t)
		x.Fuse(0, fuse)
		got := x.writes("data", 0, api.Block{7})
		x.wantDown(fuse < 10, false)
		if fuse < 10 {
			x.want(got, err(3, api.ErrLost))
		} else {
			x.want(got, ok(3))
		}
	}
	// The end of Sync: the label, the Apply, the label of the sync.
	for fuse := range 13 {
		x := withVolume(t)
		x.writes("data", 0, api.Block{7})
		x.cut()
		x.cut()
		x.Fuse(0, fuse)
		got := x.cut()
		x.wantDown(fuse < 12, false)
		x.wantDesk(0, 1, false, 0)
		if fuse < 10 {
			x.want(got, err(2, api.ErrLost))
		} else {
			x.want(got, ok(2))
		}
	}
}

// P27.4: the other node is down, or comes back, while a sync is out: the same one is taken when it is up.
func TestSyncOverCrash(t *testing.T) {
	x := alone(t)
	x.crash(1)
	for range 5 {
		x.want(x.slot(0))
	}
	x.want(x.boot(1))
	x.wantLabel(0, api.Label{Epoch: 1, Seq: 3, Next: 5, Dirty: 0x10, Last: 0x10})
	x.want(x.slot(0))
	x.wantDesk(0, 1, true, 0)
}
