package desk_test

import (
	"math"
	"math/rand"
	"testing"

	"tollhouse/api"
	"tollhouse/desk"
)

// most is the greatest epoch.
const most = math.MaxUint32

// nodes are such as there are, and such as there aren't.
func nodes() []int {
	return []int{0, 1, 2, -1, -2, 3, 255, 256, 257, 1 << 32, 1<<32 + 1, -1 << 32, math.MaxInt, math.MinInt}
}

// epochs are such at the edges.
func epochs() []uint32 {
	return []uint32{0, 1, 2, 255, 256, 1<<31 - 1, 1 << 31, most - 2, most - 1, most}
}

// desks are all of those nodes and epochs, with Sync and without.
func desks() []desk.Desk {
	var all []desk.Desk
	for _, primary := range nodes() {
		for _, epoch := range epochs() {
			all = append(all, desk.Desk{Primary: primary, Epoch: epoch}, desk.Desk{Primary: primary, Epoch: epoch, Sync: true})
		}
	}
	return all
}

// dirts are bits of no block, of one, of several, of all, and beyond them.
func dirts() []uint16 {
	return []uint16{0, 1, 2, 0x0801, 0x0800, 0x0f0f, 0x00f0, 0x0fff, 0x1000, 0x8001, 0xffff}
}

// P23.1: a new desk.
func TestNew(t *testing.T) {
	if d := desk.New(); d != (desk.Desk{Primary: 0, Epoch: 1, Sync: true}) {
		t.Errorf("%v", d)
	}
}

// P23.1: the other node of each primary; 0 of what is no node.
func TestOther(t *testing.T) {
	for _, d := range desks() {
		want := 0
		if d.Primary == 0 {
			want = 1
		}
		if got := d.Other(); got != want {
			t.Errorf("%v: %d, want %d", d, got, want)
		}
	}
}

// P23.1: the chapter's example, and other known answers.
func TestMayKnown(t *testing.T) {
	if e := desk.New().May(1, true, false); e != api.OK {
		t.Errorf("error %d", e)
	}
	sync, not := desk.Desk{Primary: 1, Epoch: 3, Sync: true}, desk.Desk{Primary: 1, Epoch: 3}
	for _, x := range []struct {
		d         desk.Desk
		n         int
		up, force bool
		want      api.Errno
	}{
		{sync, 0, true, false, api.OK}, {sync, 0, true, true, api.OK},
		{sync, 1, true, false, api.ErrArg}, {sync, 1, true, true, api.ErrArg}, {sync, 1, false, false, api.ErrArg}, {sync, 2, true, true, api.ErrArg}, {sync, -1, true, true, api.ErrArg}, {sync, 2, false, false, api.ErrArg},
		{sync, 0, false, false, api.ErrDown}, {sync, 0, false, true, api.ErrDown},
		{not, 0, true, false, api.ErrSync}, {not, 0, true, true, api.OK}, {not, 0, false, false, api.ErrDown}, {not, 0, false, true, api.ErrDown}, {not, 1, false, false, api.ErrArg}, {not, 1, true, false, api.ErrArg}, {not, 5, true, false, api.ErrArg},
		{desk.Desk{Primary: 2, Sync: true}, 0, true, false, api.OK}, {desk.Desk{Primary: 2, Sync: true}, 1, true, false, api.OK}, {desk.Desk{Primary: 2, Sync: true}, 2, true, false, api.ErrArg},
		{desk.Desk{Primary: -1}, 0, true, false, api.ErrSync}, {desk.Desk{Primary: -1}, 1, true, true, api.OK},
	} {
		if e := x.d.May(x.n, x.up, x.force); e != x.want {
			t.Errorf("%v: %d, %t, %t: error %d, want %d", x.d, x.n, x.up, x.force, e, x.want)
		}
	}
}

// P23.1: each error by each desk and node, and which comes first where several apply.
func TestMay(t *testing.T) {
	for _, d := range desks() {
		for _, n := range nodes() {
			for bits := range 4 {
				up, force := bits&1 == 1, bits&2 == 2
				var errors []api.Errno
				if n < 0 || n > 1 || n == d.Primary {
					errors = append(errors, api.ErrArg)
				}
				if !up {
					errors = append(errors, api.ErrDown)
				}
				if !(d.Sync || force) {
					errors = append(errors, api.ErrSync)
				}
				if want := append(errors, api.OK)[0]; d.May(n, up, force) != want {
					t.Errorf("%v: %d, %t, %t: error %d, want %d", d, n, up, force, d.May(n, up, force), want)
				}
			}
		}
	}
}

// P23.2: the primary, the epoch and 1, Sync just if nothing is dirty, whatever was.
func TestTurn(t *testing.T) {
	for _, d := range desks() {
		for _, n := range nodes() {
			for _, dirty := range dirts() {
				want := desk.Desk{Primary: n, Epoch: uint32((uint64(d.Epoch) + 1) % (1 << 32)), Sync: dirty == 0}
				was := d
				if got := d.Turn(n, dirty); got != want || d != was {
					t.Errorf("%v: %d, %04x: %v, want %v", d, n, dirty, got, want)
				}
			}
		}
	}
	if d := (desk.Desk{Epoch: most}).Turn(1, 0); d != (desk.Desk{Primary: 1, Sync: true}) {
		t.Errorf("%v", d)
	}
}

// P23.2: known labels.
func TestFreshKnown(t *testing.T) {
	l := api.Label{Epoch: 7, Seq: 20, Next: 30, Dirty: 0x0012, Last: 0x0803}
	if got := desk.Fresh(desk.Desk{Epoch: 4, Sync: true}, l); got != (api.Label{Epoch: 5, Next: 1, Dirty: 0x0813}) {
		t.Errorf("with Sync: %v", got)
	}
	if got := desk.Fresh(desk.Desk{Epoch: 4}, l); got != (api.Label{Epoch: 5, Next: 1, Dirty: 0x0fff}) {
		t.Errorf("without: %v", got)
	}
	if got := desk.Fresh(desk.New(), api.Label{}); got != (api.Label{Epoch: 2, Next: 1}) {
		t.Errorf("new: %v", got)
	}
}

// P23.2: with Sync and without, of labels with any Dirty and Last; of the label's numbers nothing is left.
func TestFresh(t *testing.T) {
	for _, d := range desks() {
		for _, dirty := range dirts() {
			for _, last := range dirts() {
				want := api.Label{Epoch: uint32((uint64(d.Epoch) + 1) % (1 << 32)), Next: 1, Dirty: 0x0fff}
				if d.Sync {
					want.Dirty = dirty | last
				}
				for _, l := range []api.Label{{}, {Epoch: 1, Next: 1}, {Epoch: most, Seq: most, Next: most}} {
					l.Dirty, l.Last = dirty, last
					if got := desk.Fresh(d, l); got != want {
						t.Errorf("%v, %v: %v, want %v", d, l, got, want)
					}
				}
			}
		}
	}
}

// P23.3: by lot: epochs rise with each turn, by one, and the fresh label's is that of the turned desk.
func TestEpochsRise(t *testing.T) {
	lot := rand.New(rand.NewSource(23))
	d := desk.New()
	for k := range 10000 {
		l := api.Label{Epoch: lot.Uint32(), Seq: lot.Uint32(), Next: lot.Uint32(), Dirty: uint16(lot.Intn(3)), Last: uint16(lot.Intn(2))}
		fresh, was := desk.Fresh(d, l), d
		d = d.Turn(d.Other(), fresh.Dirty)
		if d.Epoch != uint32(k)+2 || d.Epoch <= was.Epoch || d.Epoch != fresh.Epoch || d.Primary == was.Primary || d.Primary != (k+1)%2 {
			t.Fatalf("%v behind %v", d, was)
		}
		if !was.Sync && (d.Sync || fresh.Dirty != 0x0fff) {
			t.Fatalf("%v behind %v: Sync of what was not", d, was)
		}
		// A desk is in Sync again once its nodes are.
		d.Sync = d.Sync || lot.Intn(2) == 0
	}
}
