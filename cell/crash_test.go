package cell_test

import (
	"math"
	"math/rand"
	"slices"
	"testing"

	"tollhouse/api"
	"tollhouse/audit"
)

// P27.4: of nodes that there aren't nothing is done.
func TestNoSuchNode(t *testing.T) {
	x := withVolume(t)
	x.writes("data", 0, api.Block{7})
	for _, n := range []int{-1, -2, 2, 3, 256, 1 << 32, 1<<32 + 1, math.MaxInt, math.MinInt} {
		x.want(x.crash(n, 1))
		x.want(x.boot(n, 1))
	}
	x.wantDown(false, false)
	x.wantDesk(0, 1, true, 1)
	x.want(x.slot(0), ok(2))
}

// P27.4: the primary falls: all that waits is lost, in order, and nothing is out or early any more. Sync stays.
func TestCrashPrimary(t *testing.T) {
	x := withVolume(t)
	for k := range 4 {
		x.writes("data", k, api.Block{byte(k + 1)})
	}
	x.want(x.slot(4))
	x.want(x.crash(0), err(2, api.ErrLost), err(3, api.ErrLost), err(4, api.ErrLost), err(5, api.ErrLost))
	x.wantDown(true, false)
	x.wantDesk(0, 1, true, 0)
	x.want(x.slot(8))
	x.want(x.crash(0))
	x.want(x.boot(0))
	// What was out made its block dirty: the primary goes on with a sync of it, as it is.
	x.wantDesk(0, 1, false, 0)
	x.wantLabel(0, api.Label{Epoch: 1, Seq: 1, Next: 4, Dirty: 2, Last: 0x1f})
	x.wantBlock(1, 1, 1)
	x.want(x.slot(8))
	x.wantDesk(0, 1, true, 0)
	x.wantBlock(1, 1, 0)
	x.wantLabel(1, api.Label{Epoch: 1, Seq: 3, Next: 4, Last: 2})
}

// P27.4: the other node falls: nothing is lost.
func TestCrashOther(t *testing.T) {
	x := withVolume(t)
	x.writes("data", 0, api.Block{7})
	x.want(x.crash(1, 1, 1))
	x.want(x.crash(1, 1, 1))
	x.wantDesk(0, 1, true, 1)
	x.want(x.boot(1))
	x.wantDesk(0, 1, true, 1)
	x.want(x.slot(0), ok(2))
}

// P27.4: a boot of a node that is open is nothing: what is loose on its disk stays loose, and its fuse as it is.
func TestBootOpen(t *testing.T) {
	x := withVolume(t)
	for n := range 2 {
		itself := x.Cell.Node(n)
		itself.Write(18, api.Block{1})
		x.Fuse(n, 1)
		x.want(x.boot(n, 1, 1))
		if x.Cell.Node(n) != itself || itself.Loose() != 1 || itself.Write(18, api.Block{}) != api.OK || itself.Write(18, api.Block{}) != api.ErrDown {
			t.Errorf("node %d: booted", n)
		}
	}
}

// P27.4: which loose writes survive a crash is told by the crash; there is nothing left for the boot.
func TestKeep(t *testing.T) {
	for n := range 2 {
		for bits := range 4 {
			x := withVolume(t)
			d := x.Cell.Node(n)
			d.Write(17, api.Block{1})
			d.Write(18, api.Block{2})
			x.crash(n, byte(bits&1), byte(bits>>1))
			if d.Loose() != 0 || d.Down() {
				t.Error("not up")
			}
			x.boot(n, 1, 1)
			x.wantBlock(n, 10, byte(bits&1))
			x.wantBlock(n, 11, byte(bits&2))
		}
	}
}

// P27.4: of a node whose fuse blew the loose writes are still there: for the boot, or for a crash ahead of it.
func TestKeepOfFuse(t *testing.T) {
	for _, crashed := range []bool{false, true} {
		for keep := range 2 {
			x := withVolume(t)
			x.Fuse(0, 1)
			x.want(x.writes("data", 0, api.Block{7}), err(2, api.ErrLost))
			x.wantDown(true, false)
			if crashed {
				x.want(x.crash(0, byte(keep)))
				x.want(x.boot(0, byte(1-keep)))
			} else {
				x.want(x.boot(0, byte(keep)))
			}
			x.wantDesk(0, 1, keep == 0, 0)
			l := api.Label{Epoch: 1, Seq: 1, Next: 2, Last: 0x1f}
			if keep == 1 {
				// And the sync of what was never written has the next number.
				l.Next, l.Dirty = 4, 2
			}
			x.wantLabel(0, l)
			// The fuse is none any more.
			x.want(x.slot(0))
			x.want(x.writes("data", 0, api.Block{7}))
			x.want(x.slot(0), ok(3))
		}
	}
}

// P27.4: the boot carries out what the log has, for the primary and the other node.
func TestBootCarriesOut(t *testing.T) {
	x := withVolume(t)
	x.writes("data", 0, api.Block{7})
	x.Fuse(1, 4)
	x.want(x.slot(0))
	x.wantDown(false, true)
	x.want(x.boot(1))
	x.wantBlock(1, 1, 7)
	x.wantLabel(1, api.Label{Epoch: 1, Seq: 2, Next: 3, Last: 2})
	x.Fuse(0, 4)
	x.want(x.slot(0), err(2, api.ErrLost))
	x.want(x.boot(0))
	x.wantBlock(0, 1, 7)
	x.wantDesk(0, 1, false, 0)
	x.wantLabel(0, api.Label{Epoch: 1, Seq: 2, Next: 4, Dirty: 2, Last: 2})
	x.want(x.slot(0))
	x.wantDesk(0, 1, true, 0)
}

// P27.4: without Sync the primary goes on behind its boot with what is dirty; and with nothing dirty it is Sync.
func TestBootAlone(t *testing.T) {
	x := alone(t)
	x.want(x.crash(0))
	x.want(x.slot(0))
	x.want(x.boot(0))
	x.wantDesk(0, 1, false, 0)
	x.wantLabel(0, api.Label{Epoch: 1, Seq: 3, Next: 6, Dirty: 0x10, Last: 0x10})
	x.want(x.slot(0))
	x.wantDesk(0, 1, true, 0)
}

// P27.4: a node that is not the primary is booted: its Dirty is nothing to the desk.
func TestBootOtherDirty(t *testing.T) {
	x := withVolume(t)
	x.writes("data", 0, api.Block{7})
	x.crash(0)
	x.want(x.says("promote 1"), ok(3))
	for range 5 {
		x.want(x.slot(0))
	}
	x.want(x.boot(0))
	x.wantDesk(1, 2, false, 0)
	for range 5 {
		x.want(x.slot(0))
	}
	x.wantDesk(1, 2, true, 0)
	x.crash(0)
	x.want(x.boot(0))
	if x.Cell.Node(0).Label().Dirty == 0 {
		t.Error("nothing is dirty")
	}
	x.wantDesk(1, 2, true, 0)
}

// written is a write that was asked for.
type written struct {
	id   int
	data api.Block
}

// watch knows of a tenant's volume "data" which bytes each of its blocks may have.
type watch struct {
	*tenant
	last  [4]written   // that was answered
	later [4][]written // that were asked behind it, and may be done
}

// writeOne asks for a write of bytes that are unlike all others.
func (w *watch) writeOne(at int) {
	w.t.Helper()
	id := w.id + 1
	b := api.Block{1, byte(id), byte(id >> 8), byte(id >> 16), byte(at)}
	w.later[at] = append(w.later[at], written{id, b})
	w.heard(w.writes("data", at, b))
}

// heard takes replies, those of writes among them.
func (w *watch) heard(l []api.Reply) {
	for _, r := range l {
		for at := range w.later {
			k := slices.IndexFunc(w.later[at], func(x written) bool { return x.id == r.Id })
			if k < 0 {
				continue
			}
			switch r.E {
			case api.OK:
				w.last[at] = w.later[at][k]
				w.later[at] = w.later[at][k+1:]
			case api.ErrLost:
			default:
				w.later[at] = slices.Delete(slices.Clone(w.later[at]), k, k+1)
			}
		}
	}
}

// may tells whether the block of the volume may have these bytes.
func (w *watch) may(at int, b api.Block) bool {
	return b == w.last[at].data || slices.ContainsFunc(w.later[at], func(x written) bool { return x.data == b })
}

// check holds each block of the primary, and with Sync of both nodes, against what it may be.
func (w *watch) check() {
	w.t.Helper()
	d := w.Cell.Desk()
	for n := range 2 {
		if w.Cell.Node(n) == nil || n != d.Primary && !d.Sync {
			continue
		}
		for at := range 4 {
			if b := w.block(n, at+1); !w.may(at, b) {
				w.t.Fatalf("node %d: block %d: %x, answered last %v, later %v, %v", n, at, b, w.last[at], w.later[at], d)
			}
		}
	}
}

// settles boots both nodes, and holds that a tenant is Sync soon, nothing waits, and both have the same.
func (w *watch) settles() {
	w.t.Helper()
	for n := range 2 {
		w.Fuse(n, -1)
		w.heard(w.boot(n))
	}
	for range 64 {
		w.heard(w.hears(w.Cell.Slot(true)))
	}
	for range 28 {
		w.heard(w.slot(0))
	}
	if d := w.Cell.Desk(); !d.Sync || w.Queued() != 0 || w.blocks(0) != w.blocks(1) {
		w.t.Fatalf("%v, %d wait", d, w.Queued())
	}
	if i := audit.Verify(w.Cell.Log()); i != -1 {
		w.t.Fatalf("the log is wrong at %d", i)
	}
	w.check()
}

// keeps are choices of which of up to n loose writes survive.
func keeps(n int) [][]byte {
	var all [][]byte
	for bits := range 1 << n {
		keep := make([]byte, n)
		for k := range keep {
			keep[k] = byte(bits >> k & 1)
		}
		all = append(all, keep)
	}
	return all
}

// P27.5: a write with Sync, by each fuse of the one node or the other one, with each keep, acked or not, and then booted, promoted, or both: what was answered is there.
func TestWriteCut(t *testing.T) {
	for n := range 2 {
		for fuse := range 16 {
			for _, keep := range keeps(2) {
				for _, fate := range []int{0, 1, 2, 4, 8} {
					for order := range 4 {
						w := &watch{tenant: withVolume(t)}
						w.writeOne(0)
						w.heard(w.slot(0))
						w.Fuse(n, fuse)
						w.writeOne(0)
						w.heard(w.slot(fate))
						w.check()
						if order&1 == 1 {
							w.heard(w.crash(n, keep...))
							w.check()
						}
						if order&2 == 2 {
							w.heard(w.says("promote 1"))
							w.check()
						}
						w.heard(w.boot(n, keep...))
						w.check()
						w.heard(w.says("promote 1"))
						w.check()
						w.settles()
					}
				}
			}
		}
	}
}

// P27.5: the same without Sync: what was answered is on the primary, and behind a sync on both.
func TestWriteAloneCut(t *testing.T) {
	for n := range 2 {
		for fuse := range 24 {
			for _, keep := range keeps(1) {
				for _, fate := range []int{0, 4, 8, 9} {
					w := &watch{tenant: withVolume(t)}
					w.writeOne(3)
					for range 3 {
						w.heard(w.cut())
					}
					w.Fuse(n, fuse)
					w.writeOne(3)
					w.check()
					w.heard(w.slot(fate))
					w.check()
					w.writeOne(2)
					w.heard(w.slot(fate))
					w.check()
					w.heard(w.crash(n, keep...))
					w.check()
					w.heard(w.boot(n, keep...))
					w.check()
					w.heard(w.slot(fate))
					w.check()
					w.settles()
				}
			}
		}
	}
}

// P27.5: by lot: writes, slots of any fate, cuts, fuses, crashes, boots, promotes, one behind the other.
func TestByLot(t *testing.T) {
	lot := rand.New(rand.NewSource(27))
	seen := map[api.Errno]int{}
	turns, syncs := 0, 0
	for range 400 {
		w := &watch{tenant: withVolume(t)}
		hard := lot.Intn(3)
		for range 150 {
			keep := make([]byte, lot.Intn(6))
			lot.Read(keep)
			n := lot.Intn(2)
			switch k := lot.Intn(20); {
			case k < 7:
				w.writeOne(lot.Intn(4))
			case k < 8:
				w.heard(w.says([]string{"make b 2", "gone b", "make cc 3"}[lot.Intn(3)]))
			case k < 13:
				w.heard(w.slot(lot.Intn(16) & lot.Intn(16)))
			case k < 14:
				w.heard(w.cut())
			case k < 15 && hard > 0:
				w.Fuse(n, lot.Intn(25))
			case k < 16 && hard > 1:
				w.heard(w.crash(n, keep...))
			case k < 18:
				w.heard(w.boot(n, keep...))
			case k < 19:
				epoch := w.Cell.Desk().Epoch
				l := w.says("promote " + string([]byte{byte('0' + 1 - w.Cell.Desk().Primary)}))
				w.heard(l)
				for _, r := range l {
					seen[r.E]++
				}
				if w.Cell.Desk().Epoch > epoch {
					turns++
				}
			default:
				at := lot.Intn(4)
				for _, r := range w.reads("data", at) {
					seen[r.E]++
					if r.E == api.OK && !w.may(at, api.Block(r.Data)) {
						t.Fatalf("read %x", r.Data)
					}
				}
			}
			if w.Cell.Desk().Sync {
				syncs++
			}
			w.check()
		}
		w.settles()
	}
	if turns < 100 || syncs < 1000 || seen[api.ErrLost] < 20 || seen[api.ErrDown] < 100 || seen[api.ErrSync] < 20 {
		t.Errorf("%d turns, %d in Sync, %v", turns, syncs, seen)
	}
}

// P27.4: what was out when the primary fell, or when it lost its place, never comes late.
func TestNothingEarlyBehindFall(t *testing.T) {
	x := withVolume(t)
	x.writes("data", 0, api.Block{7})
	x.crash(0)
	x.boot(0)
	ahead := sectors(x.Cell.Node(1))
	x.want(x.slot(8 + 1))
	if !slices.Equal(sectors(x.Cell.Node(1)), ahead) {
		t.Error("it came to the other node")
	}
	x = withVolume(t)
	x.writes("data", 0, api.Block{7})
	x.says("promote 1")
	ahead = sectors(x.Cell.Node(0))
	x.want(x.slot(8 + 1))
	if !slices.Equal(sectors(x.Cell.Node(0)), ahead) {
		t.Error("it came to the old primary")
	}
}

// P27.4: the table alone is dirty.
func TestBootTableDirty(t *testing.T) {
	x := withVolume(t)
	x.says("gone data")
	x.crash(0)
	x.want(x.boot(0))
	x.wantDesk(0, 1, false, 0)
	x.want(x.slot(0))
	x.wantDesk(0, 1, true, 0)
}

// P27.4: a disk whose first sector is no label's any more stays down.
func TestBootNoLabel(t *testing.T) {
	for n := range 2 {
		x := withVolume(t)
		d := x.Cell.Node(n)
		d.Write(0, api.Block{9})
		d.Flush()
		x.crash(n)
		for range 2 {
			x.want(x.boot(n))
			x.wantDown(n == 0, n == 1)
		}
	}
}
