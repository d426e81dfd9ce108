package cell_test

import (
	"testing"

	"tollhouse/api"
)

// P27.3: each of the desk's errors, by Promote and Force, in each state of desk and nodes; nothing changes then.
func TestMayNot(t *testing.T) {
	for _, y := range []struct {
		sync, zero, one bool // Sync, and which nodes are down
		line            string
		want            api.Errno
	}{
		{true, false, false, "promote 0", api.ErrArg}, {true, false, false, "promote 2", api.ErrArg}, {true, false, false, "promote 4294967295", api.ErrArg}, {true, false, false, "force 0", api.ErrArg}, {true, false, false, "force 2", api.ErrArg}, {true, false, false, "force 4294967295", api.ErrArg},
		{true, false, true, "promote 1", api.ErrDown}, {true, false, true, "force 1", api.ErrDown}, {true, true, true, "promote 1", api.ErrDown}, {true, true, true, "force 1", api.ErrDown}, {true, true, true, "promote 0", api.ErrArg}, {true, true, false, "force 0", api.ErrArg}, {true, false, true, "force 2", api.ErrArg},
		{false, false, false, "promote 1", api.ErrSync}, {false, true, false, "promote 1", api.ErrSync}, {false, false, true, "promote 1", api.ErrDown}, {false, true, true, "promote 1", api.ErrDown}, {false, false, true, "force 1", api.ErrDown}, {false, false, false, "promote 0", api.ErrArg}, {false, false, true, "force 0", api.ErrArg}, {false, false, false, "promote 3", api.ErrArg},
	} {
		x := withVolume(t)
		if !y.sync {
			x = alone(t)
		}
		if y.zero {
			x.crash(0)
		}
		if y.one {
			x.crash(1)
		}
		x.want(x.says(y.line), err(x.id, y.want))
		x.wantDesk(0, 1, y.sync, 0)
		x.wantDown(y.zero, y.one)
		x.boot(0)
		x.boot(1)
		x.slot(0)
		x.wantDesk(0, 1, true, 0)
		if x.blocks(0) != x.blocks(1) {
			t.Errorf("%v: other blocks", y)
		}
	}
}

// P27.3: what waits, and is out, stays as it is behind an error.
func TestMayNotWaiting(t *testing.T) {
	x := withVolume(t)
	x.writes("data", 0, api.Block{7})
	x.crash(1)
	x.cut()
	x.want(x.says("promote 1"), err(3, api.ErrDown))
	x.want(x.says("promote 0"), err(4, api.ErrArg))
	x.cut()
	x.boot(1)
	x.wantDesk(0, 1, true, 1)
	x.want(x.slot(0), ok(2))
	x.wantLabel(1, api.Label{Epoch: 1, Seq: 2, Next: 3, Last: 2})
}

// P27.3: a node that never did anything: nothing is dirty, so it is Sync at once.
func TestPromoteNew(t *testing.T) {
	for _, line := range []string{"promote 1", "force 1"} {
		x := newTenant(t)
		x.want(x.says(line), ok(1))
		x.wantDesk(1, 2, true, 0)
		x.wantLabel(0, api.Label{Epoch: 1, Next: 1})
		x.wantLabel(1, api.Label{Epoch: 2, Next: 1})
		x.want(x.says("make a 1"))
		x.want(x.slot(0), ok(2))
		for n := range 2 {
			x.wantLabel(n, api.Label{Epoch: 2, Seq: 1, Next: 2, Last: 3})
		}
		x.want(x.says("promote 0"), ok(3))
		x.wantDesk(0, 3, false, 0)
	}
}

// P27.3: with Sync what the node did last is dirty, and is sent, a block a slot, the table last.
func TestPromoteSync(t *testing.T) {
	for _, line := range []string{"promote 1", "force 1"} {
		for _, crashed := range []bool{false, true} {
			x := withVolume(t)
			if crashed {
				x.crash(0)
			}
			x.want(x.says(line), ok(2))
			x.wantDesk(1, 2, false, 0)
			x.wantLabel(1, api.Label{Epoch: 2, Next: 2, Dirty: 0x1f})
			x.boot(0)
			for k, dirty := range []uint16{0x1d, 0x19, 0x11, 0x01} {
				x.want(x.slot(0))
				x.wantDesk(1, 2, false, 0)
				x.wantLabel(1, api.Label{Epoch: 2, Next: uint32(k + 3), Dirty: dirty})
				x.wantLabel(0, api.Label{Epoch: 2, Seq: uint32(k + 1), Next: uint32(k + 2), Last: 2 << k})
			}
			x.want(x.slot(0))
			x.wantDesk(1, 2, true, 0)
			x.wantLabel(1, api.Label{Epoch: 2, Next: 6})
			x.want(x.reads("data", 0), blockOf(3, 0))
			x.want(x.writes("data", 0, api.Block{4}))
			x.want(x.slot(0), ok(4))
			x.wantBlock(0, 1, 4)
			x.wantBlock(1, 1, 4)
		}
	}
}

// P27.3: all that waits is answered ErrLost, ahead of the OK; what was out, or early, never comes any more.
func TestPromoteLoses(t *testing.T) {
	for _, arrived := range []bool{false, true} {
		x := withVolume(t)
		x.writes("data", 0, api.Block{7})
		x.writes("data", 1, api.Block{8})
		x.says("make b 1")
		if arrived {
			x.want(x.slot(4))
		}
		x.wantDesk(0, 1, true, 3)
		x.want(x.says("promote 1"), err(2, api.ErrLost), err(3, api.ErrLost), err(4, api.ErrLost), ok(5))
		x.wantDesk(1, 2, false, 0)
		// What arrived is what it did last, and so it is dirty.
		block, dirty := byte(0), uint16(0x1f)
		if arrived {
			block, dirty = 7, 2
		}
		x.wantLabel(1, api.Label{Epoch: 2, Next: 2, Dirty: dirty})
		x.want(x.reads("data", 0), blockOf(6, block))
		x.want(x.reads("data", 1), blockOf(7, 0))
		for range 5 {
			x.want(x.slot(8))
		}
		x.wantDesk(1, 2, true, 0)
		x.wantBlock(0, 1, block)
		x.wantBlock(0, 2, 0)
	}
}

// P27.3: Force without Sync: all blocks are dirty; what the old primary did alone is gone.
func TestForce(t *testing.T) {
	for _, crashed := range []bool{false, true} {
		x := alone(t)
		x.want(x.writes("data", 0, api.Block{5}), ok(3))
		if crashed {
			x.crash(0)
		}
		x.want(x.says("promote 1"), err(4, api.ErrSync))
		x.want(x.says("force 1"), ok(5))
		x.wantDesk(1, 2, false, 0)
		x.wantLabel(1, api.Label{Epoch: 2, Next: 2, Dirty: 0xfff})
		x.want(x.reads("data", 0), blockOf(6, 0))
		x.boot(0)
		for k := range 12 {
			x.wantDesk(1, 2, false, 0)
			x.want(x.slot(0))
			if l := x.Cell.Node(0).Label(); l.Seq != uint32(k+1) || l.Epoch != 2 || l.Last != 1<<((k+1)%12) {
				t.Errorf("%d: %v", k, l)
			}
		}
		x.wantDesk(1, 2, true, 0)
		if x.blocks(0) != x.blocks(1) {
			t.Error("other blocks")
		}
	}
}

// P27.3: a write behind a Force without Sync is done at once, by the new primary.
func TestForceAndWrite(t *testing.T) {
	x := alone(t)
	x.crash(0)
	x.want(x.says("force 1"), ok(3))
	x.want(x.writes("data", 0, api.Block{6}), ok(4))
	x.wantLabel(1, api.Label{Epoch: 2, Seq: 2, Next: 3, Dirty: 0xfff, Last: 2})
}

// P27.3: a fuse at each write and flush of a Promote with Sync: while the label is on its way the node falls, the primary stays, with one epoch more; what is out is sent anew, whatever the other node's disk kept.
func TestPromoteFalls(t *testing.T) {
	for _, line := range []string{"promote 1", "force 1"} {
		for fuse := range 2 {
			for keep := range 2 {
				for _, arrived := range []bool{false, true} {
					x := withVolume(t)
					x.writes("data", 0, api.Block{7})
					x.writes("data", 1, api.Block{8})
					if arrived {
						x.want(x.slot(4))
					}
					x.Fuse(1, fuse)
					x.want(x.says(line), err(4, api.ErrDown))
					x.wantDown(false, true)
					x.wantDesk(0, 2, true, 2)
					x.wantLabel(0, api.Label{Epoch: 1, Seq: 1, Next: 4, Dirty: 2, Last: 0x1f})
					x.boot(1, byte(keep))
					switch {
					case fuse == 1 && keep == 1 && arrived:
						x.wantLabel(1, api.Label{Epoch: 2, Next: 1, Dirty: 0x02})
					case fuse == 1 && keep == 1:
						x.wantLabel(1, api.Label{Epoch: 2, Next: 1, Dirty: 0x1f})
					case arrived:
						x.wantLabel(1, api.Label{Epoch: 1, Seq: 2, Next: 3, Last: 2})
					default:
						x.wantLabel(1, api.Label{Epoch: 1, Seq: 1, Next: 2, Last: 0x1f})
					}
					// The packet that was out is the early one: of the older epoch, it is stale, or done ahead of what is out now.
					x.want(x.slot(8), ok(2))
					x.want(x.slot(8), ok(3))
					x.wantDesk(0, 2, true, 0)
					x.wantLabel(0, api.Label{Epoch: 2, Seq: 4, Next: 5, Last: 4})
					if x.blocks(0) != x.blocks(1) {
						t.Error("other blocks")
					}
				}
			}
		}
	}
}

// P27.3: the slots that were missed are forgotten when what is out is sent anew.
func TestPromoteFallsPatience(t *testing.T) {
	x := withVolume(t)
	x.writes("data", 0, api.Block{7})
	x.cut()
	x.cut()
	x.Fuse(1, 0)
	x.want(x.says("promote 1"), err(3, api.ErrDown))
	x.want(x.cut())
	x.want(x.slot(0))
	x.wantDesk(0, 2, true, 1)
	x.want(x.cut(), ok(2))
	x.wantDesk(0, 2, false, 0)
}

// P27.3: the same with nothing out, and nothing that waits.
func TestPromoteFallsIdle(t *testing.T) {
	x := withVolume(t)
	x.Fuse(1, 1)
	x.want(x.says("promote 1"), err(2, api.ErrDown))
	x.wantDesk(0, 2, true, 0)
	x.wantLabel(0, api.Label{Epoch: 1, Seq: 1, Next: 2, Last: 0x1f})
	x.boot(1, 1)
	x.wantLabel(1, api.Label{Epoch: 2, Next: 1, Dirty: 0x1f})
	x.want(x.writes("data", 0, api.Block{3}))
	x.want(x.slot(0), ok(3))
	x.want(x.says("promote 1"), ok(4))
	x.wantDesk(1, 3, false, 0)
	x.wantLabel(1, api.Label{Epoch: 3, Next: 2, Dirty: 0x1f})
}

// P27.3: a Force without Sync that falls: the sync that was out is sent anew, of the new epoch, and its block as it is then; the primary stays without Sync.
func TestForceFalls(t *testing.T) {
	for fuse := range 2 {
		for keep := range 2 {
			x := alone(t)
			x.want(x.writes("data", 3, api.Block{6}), ok(3))
			x.Fuse(1, fuse)
			x.want(x.says("force 1"), err(4, api.ErrDown))
			x.wantDesk(0, 2, false, 0)
			x.wantDown(false, true)
			x.wantLabel(0, api.Label{Epoch: 1, Seq: 5, Next: 7, Dirty: 0x10, Last: 0x10})
			x.boot(1, byte(keep))
			if fuse == 1 && keep == 1 {
				x.wantLabel(1, api.Label{Epoch: 2, Next: 1, Dirty: 0xfff})
			}
			x.want(x.slot(8))
			x.wantDesk(0, 2, true, 0)
			x.wantBlock(1, 4, 6)
		}
	}
}

// P27.3: a Promote falls, and then the primary, when it goes on: ErrDown, then what waits is lost.
func TestPromoteFallsBoth(t *testing.T) {
	for fuse := range 3 {
		x := withVolume(t)
		x.writes("data", 0, api.Block{7})
		x.writes("data", 1, api.Block{8})
		x.Fuse(1, 0)
		x.Fuse(0, fuse)
		got := x.says("promote 1")
		x.wantDown(fuse < 2, true)
		if fuse < 2 {
			x.want(got, err(4, api.ErrDown), err(2, api.ErrLost), err(3, api.ErrLost))
			x.wantDesk(0, 2, true, 0)
		} else {
			x.want(got, err(4, api.ErrDown))
			x.wantDesk(0, 2, true, 2)
		}
	}
}

// P27.3: with the primary down, a Promote that falls: no one is open, nothing goes on; behind a boot it does.
func TestPromoteFallsAlone(t *testing.T) {
	x := withVolume(t)
	x.crash(0)
	x.Fuse(1, 1)
	x.want(x.says("promote 1"), err(2, api.ErrDown))
	x.wantDown(true, true)
	x.wantDesk(0, 2, true, 0)
	x.want(x.says("promote 1"), err(3, api.ErrDown))
	x.want(x.boot(1, 1))
	x.wantLabel(1, api.Label{Epoch: 2, Next: 1, Dirty: 0x1f})
	x.want(x.says("promote 1"), ok(4))
	x.wantDesk(1, 3, false, 0)
	x.want(x.boot(0))
	for range 5 {
		x.want(x.slot(0))
	}
	x.wantDesk(1, 3, true, 0)
}

// P27.3: the new primary falls when it goes on: it is the primary all the same.
func TestPromotedFalls(t *testing.T) {
	for fuse := 2; fuse < 5; fuse++ {
		x := withVolume(t)
		x.writes("data", 0, api.Block{7})
		x.Fuse(1, fuse)
		x.want(x.says("promote 1"), err(2, api.ErrLost), ok(3))
		x.wantDesk(1, 2, false, 0)
		x.wantDown(false, fuse < 4)
		x.Fuse(1, -1)
		x.boot(1)
		for range 5 {
			x.want(x.slot(0))
		}
		x.wantDesk(1, 2, true, 0)
		if x.blocks(0) != x.blocks(1) {
			t.Error("other blocks")
		}
	}
}

// P27.3: back and forth: epochs rise with each, and the numbers begin anew.
func TestPromoteOften(t *testing.T) {
	x := withVolume(t)
	for k := range 20 {
		n := (k + 1) % 2
		x.writes("data", 0, api.Block{byte(k + 1)})
		x.want(x.slot(0), ok(x.id))
		x.want(x.says("promote "+string([]byte{byte('0' + n)})), ok(x.id))
		x.wantDesk(n, uint32(k+2), false, 0)
		x.wantLabel(n, api.Label{Epoch: uint32(k + 2), Next: 2, Dirty: 2})
		x.want(x.reads("data", 0), blockOf(x.id, byte(k+1)))
		x.want(x.slot(0))
		x.wantDesk(n, uint32(k+2), true, 0)
	}
}

// P27.3: what was out when a Promote fell is the early one: it may come late still.
func TestPromoteFallsEarly(t *testing.T) {
	x := withVolume(t)
	x.writes("data", 0, api.Block{7})
	x.Fuse(1, 0)
	x.want(x.says("promote 1"), err(3, api.ErrDown))
	x.boot(1)
	x.want(x.slot(8 + 1))
	x.wantLabel(1, api.Label{Epoch: 1, Seq: 2, Next: 3, Last: 2})
	x.want(x.slot(0), ok(2))
	x.wantLabel(1, api.Label{Epoch: 2, Seq: 3, Next: 4, Last: 2})
}
