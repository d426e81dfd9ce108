package pair_test

import (
	"bytes"
	"math"
	"math/rand"
	"slices"
	"testing"

	"tollhouse/api"
	"tollhouse/ask"
	"tollhouse/audit"
	"tollhouse/caps"
	"tollhouse/cell"
	"tollhouse/pair"
)

// The entries, each kind's.
func tick() api.Entry { return api.Entry{Kind: api.EntTick} }

func fate(place, n int) api.Entry { return api.Entry{Kind: api.EntFate, Place: place, N: n} }

func asks(place int, b []byte) api.Entry {
	return api.Entry{Kind: api.EntAsk, Place: place, Data: b}
}

func line(place int, s string) api.Entry {
	return api.Entry{Kind: api.EntLine, Place: place, Text: s}
}

func fuse(place, node, n int) api.Entry {
	return api.Entry{Kind: api.EntFuse, Place: place, Node: node, N: n}
}

func makes(place int, key string) api.Entry {
	return api.Entry{Kind: api.EntMake, Place: place, Data: []byte(key)}
}

func gone(place int) api.Entry { return api.Entry{Kind: api.EntGone, Place: place} }

func crash(node int, keep ...byte) api.Entry {
	return api.Entry{Kind: api.EntCrash, Node: node, Data: keep}
}

func boot(node int, keep ...byte) api.Entry {
	return api.Entry{Kind: api.EntBoot, Node: node, Data: keep}
}

func cut() api.Entry { return api.Entry{Kind: api.EntCut} }

func heal() api.Entry { return api.Entry{Kind: api.EntHeal} }

// key is that of a place's tenant in these tests.
func key(place int) string { return "key" + string([]byte{byte('0' + place)}) }

// request is a read's or a write's bytes, by a token for all of that place, its key and first generation.
func request(place, kind int, volume string, at int, data api.Block, until uint32) []byte {
	tok, _ := caps.Mint([]byte(key(place)), api.Claim{Place: place, Rights: 3, Until: until, Gen: 1})
	b, e := ask.Encode(api.Ask{Kind: kind, Token: tok, Volume: volume, At: at, Data: data})
	if e != api.OK {
		panic(e)
	}
	return b
}

// told is one reply to a place, with Data.
func told(place, id int, e api.Errno, data ...byte) api.Told {
	return api.Told{Place: place, Reply: api.Reply{Id: id, E: e, Data: data}}
}

// same tells whether two replies are.
func same(a, b api.Reply) bool {
	return a.Id == b.Id && a.E == b.E && bytes.Equal(a.Data, b.Data)
}

// want holds what the pair tells of an entry against those replies.
func want(t *testing.T, p *pair.Pair, e api.Entry, want ...api.Told) {
	t.Helper()
	got := p.Do(e)
	if !slices.EqualFunc(got, want, func(a, b api.Told) bool { return a.Place == b.Place && same(a.Reply, b.Reply) }) {
		t.Errorf("%v: told %v, want %v", e, got, want)
	}
}

// ticks are n of them, of which nothing is told.
func ticks(t *testing.T, p *pair.Pair, n int) {
	t.Helper()
	for range n {
		want(t, p, tick())
	}
}

// wrongPlaces are such as there aren't.
func wrongPlaces() []int {
	return []int{-1, -2, -4, 4, 5, 255, 256, 1 << 32, 1<<32 + 1, math.MaxInt, math.MinInt}
}

// kinds are all that there are, and others.
func kinds() []int {
	return []int{1, 2, 3, 4, 5, 6, 7, 8, 9, 10, 11, 0, 12, 13, -1, -6, 256, 257, 1<<32 + 1, math.MaxInt, math.MinInt}
}

// full is a pair of four tenants.
func full(t *testing.T) *pair.Pair {
	t.Helper()
	p := pair.New()
	for place := range 4 {
		want(t, p, makes(place, key(place)), told(place, 0, api.OK))
	}
	return p
}

// P28.1: a new pair has no tenants, and no tick was.
func TestNew(t *testing.T) {
	p := pair.New()
	if p == nil || p.Tick() != 0 {
		t.Fatal("no pair")
	}
	for place := -1; place < 6; place++ {
		if p.Cell(place) != nil {
			t.Errorf("a tenant at %d", place)
		}
	}
	if pair.New() == p {
		t.Error("the same one")
	}
	ticks(t, p, 9)
}

// P28.1: of nil: none, 0, nil.
func TestNil(t *testing.T) {
	var p *pair.Pair
	for _, kind := range kinds() {
		for _, place := range []int{-1, 0, 3, 4} {
			want(t, p, api.Entry{Kind: kind, Place: place, Data: []byte("key"), Text: "status"})
		}
	}
	if p.Tick() != 0 {
		t.Error("a tick")
	}
	for place := -1; place < 5; place++ {
		if p.Cell(place) != nil {
			t.Error("a cell")
		}
	}
}

// P28.1: Shared of each kind, and of others; its other fields don't matter.
func TestShared(t *testing.T) {
	for _, kind := range kinds() {
		want := slices.Contains([]int{1, 6, 7, 8, 9, 10, 11}, kind)
		for _, e := range []api.Entry{{Kind: kind}, {Kind: kind, Place: 3, Node: 1, N: 7, Data: []byte{1}, Text: "x"}, {Kind: kind, Place: -1, Node: 9}} {
			if got := pair.Shared(e); got != want {
				t.Errorf("%v: %t", e, got)
			}
		}
	}
}

// P28.2: EntMake: a cell of that place and key; where there is one, or no such place, ErrTenant; of a wrong key ErrArg, and no cell.
func TestMake(t *testing.T) {
	p := pair.New()
	for _, place := range wrongPlaces() {
		for _, k := range []string{"", "k", string(make([]byte, 65))} {
			want(t, p, makes(place, k), told(place, 0, api.ErrTenant))
		}
	}
	for place := range 4 {
		for _, k := range []string{"", string(make([]byte, 65)), string(make([]byte, 1000))} {
			want(t, p, makes(place, k), told(place, 0, api.ErrArg))
			if p.Cell(place) != nil {
				t.Errorf("a cell at %d", place)
			}
		}
	}
	for place := range 4 {
		want(t, p, makes(place, key(place)), told(place, 0, api.OK))
		itself := p.Cell(place)
		if itself == nil {
			t.Fatalf("no cell at %d", place)
		}
		for _, k := range []string{key(place), "another", "", string(make([]byte, 65))} {
			want(t, p, makes(place, k), told(place, 0, api.ErrTenant))
		}
		if p.Cell(place) != itself {
			t.Errorf("another cell at %d", place)
		}
		want(t, p, asks(place, request(place, api.AskRead, "a", 0, api.Block{}, 9)), told(place, 1, api.ErrName))
	}
	// Longest and shortest keys.
	for _, n := range []int{1, 64} {
		q := pair.New()
		want(t, q, makes(0, string(make([]byte, n))), told(0, 0, api.OK))
	}
	// Of an entry's other fields nothing counts.
	q := pair.New()
	want(t, q, api.Entry{Kind: api.EntMake, Place: 1, Node: 9, N: -1, Data: []byte("k"), Text: "status"}, told(1, 0, api.OK))
}

// P28.2: EntGone: the cell is gone; ErrTenant, if there is none; then there may be a new one, of another key, that knows nothing.
func TestGone(t *testing.T) {
	for _, place := range append(wrongPlaces(), 0, 1, 2, 3) {
		want(t, pair.New(), gone(place), told(place, 0, api.ErrTenant))
	}
	p := full(t)
	for place := range 4 {
		want(t, p, line(place, "make a 1"))
		old := p.Cell(place)
		want(t, p, gone(place), told(place, 0, api.OK))
		want(t, p, gone(place), told(place, 0, api.ErrTenant))
		if p.Cell(place) != nil {
			t.Error("it is there")
		}
		want(t, p, makes(place, "a new key"), told(place, 0, api.OK))
		if p.Cell(place) == old || p.Cell(place).Queued() != 0 {
			t.Error("the old one")
		}
		want(t, p, asks(place, request(place, api.AskRead, "a", 0, api.Block{}, 9)), told(place, 1, api.ErrToken))
		want(t, p, line(place, "status"), told(place, 2, api.OK, 0, 1, 0, 0, 0, 1, 0, 0))
	}
}

// P28.2: places without a cell: ErrTenant of EntAsk and EntLine, nothing of EntFate and EntFuse.
func TestNoCell(t *testing.T) {
	p := pair.New()
	want(t, p, makes(1, key(1)), told(1, 0, api.OK))
	for _, place := range append(wrongPlaces(), 0, 2, 3) {
		want(t, p, asks(place, []byte{1}), told(place, 0, api.ErrTenant))
		want(t, p, asks(place, nil), told(place, 0, api.ErrTenant))
		want(t, p, asks(place, request(1, api.AskRead, "a", 0, api.Block{}, 9)), told(place, 0, api.ErrTenant))
		want(t, p, line(place, "status"), told(place, 0, api.ErrTenant))
		want(t, p, line(place, "nonsense"), told(place, 0, api.ErrTenant))
		for _, n := range []int{-1, 0, 1, 15, 16} {
			want(t, p, fate(place, n))
			want(t, p, fuse(place, n, n))
		}
	}
	want(t, p, line(1, "status"), told(1, 1, api.OK, 0, 1, 0, 0, 0, 1, 0, 0))
}

// P28.2: EntFate: its error is told under Id 0; else nothing, and the fate is the tenant's own.
func TestFate(t *testing.T) {
	p := full(t)
	for _, n := range []int{-1, 16, math.MaxInt} {
		want(t, p, fate(2, n), told(2, 0, api.ErrArg))
	}
	for range 64 {
		want(t, p, fate(2, 1))
	}
	want(t, p, fate(2, 1), told(2, 0, api.ErrQueue))
	want(t, p, fate(1, 0))
	for place := range 4 {
		want(t, p, line(place, "make a 1"))
	}
	// Ticks 1 to 4 are the slots of 1, 2, 3, 0: the packet of 2 is lost.
	want(t, p, tick(), told(1, 1, api.OK))
	want(t, p, tick())
	want(t, p, tick(), told(3, 1, api.OK))
	want(t, p, tick(), told(0, 1, api.OK))
}

// P28.2: EntTick: one more tick, and the slot of its owner, if there is such a tenant; of no other.
func TestTick(t *testing.T) {
	for n := range 40 {
		p := full(t)
		want(t, p, gone(2), told(2, 0, api.OK))
		ticks(t, p, n)
		for _, place := range []int{0, 1, 3} {
			want(t, p, line(place, "make a 1"))
		}
		owner := (n + 1) % 4
		if owner == 2 {
			want(t, p, tick())
		} else {
			want(t, p, tick(), told(owner, 1, api.OK))
		}
		if p.Tick() != uint32(n+1) {
			t.Errorf("tick %d, want %d", p.Tick(), n+1)
		}
		for _, place := range []int{0, 1, 3} {
			if got, done := p.Cell(place).Queued(), place == owner; (got == 0) != done {
				t.Errorf("tick %d: %d wait at %d", n+1, got, place)
			}
		}
	}
}

// P28.2: nothing but a tick is one.
func TestTickAlone(t *testing.T) {
	p := pair.New()
	for _, kind := range kinds() {
		if kind != api.EntTick {
			p.Do(api.Entry{Kind: kind, Data: []byte("key")})
		}
	}
	if p.Tick() != 0 {
		t.Error(p.Tick())
	}
	want(t, p, api.Entry{Kind: api.EntTick, Place: 3, Node: 1, N: 7, Data: []byte{1}, Text: "x"})
	if p.Tick() != 1 {
		t.Error(p.Tick())
	}
}

// P28.2: EntAsk and EntLine: with the tick.
func TestAskTick(t *testing.T) {
	p := full(t)
	b := request(1, api.AskRead, "a", 0, api.Block{}, 3)
	for n := range 6 {
		e := api.ErrName
		if n > 3 {
			e = api.ErrExpired
		}
		want(t, p, asks(1, b), told(1, 2*n+1, e))
		want(t, p, line(1, "revoked"), told(1, 2*n+2, api.ErrForm))
		ticks(t, p, 1)
	}
	want(t, p, asks(2, b), told(2, 1, api.ErrToken))
}

// P28.2: EntCut and EntHeal: the link, of all tenants, one made meanwhile too; it is whole at first.
func TestCutAndHeal(t *testing.T) {
	p := full(t)
	want(t, p, gone(3), told(3, 0, api.OK))
	want(t, p, cut())
	want(t, p, cut())
	want(t, p, makes(3, key(3)), told(3, 0, api.OK))
	for place := range 4 {
		want(t, p, line(place, "make a 1"))
	}
	ticks(t, p, 8)
	for n := range 4 {
		place := (n + 1) % 4
		if place == 0 {
			want(t, p, heal())
		}
		// The third slot: alone, but for the last one, whose link is whole again.
		want(t, p, tick(), told(place, 1, api.OK))
		if sync := p.Cell(place).Desk().Sync; sync != (place == 0) {
			t.Errorf("%d: Sync %t", place, sync)
		}
	}
	want(t, p, heal())
	ticks(t, p, 8)
	for place := range 4 {
		if !p.Cell(place).Desk().Sync {
			t.Errorf("%d: not Sync", place)
		}
	}
}

// P28.2: EntFuse: of that place's cell, and that node's disk.
func TestFuse(t *testing.T) {
	p := full(t)
	want(t, p, fuse(2, 0, 1))
	want(t, p, fuse(1, 1, 0))
	want(t, p, fuse(3, 2, 0))
	want(t, p, fuse(3, -1, 0))
	want(t, p, line(2, "make a 1"), told(2, 1, api.ErrLost))
	for _, place := range []int{0, 1, 3} {
		want(t, p, line(place, "make a 1"))
	}
	ticks(t, p, 2)
	want(t, p, tick(), told(3, 1, api.OK))
	want(t, p, tick(), told(0, 1, api.OK))
	for place := range 4 {
		for n := range 2 {
			down := place == 2 && n == 0 || place == 1 && n == 1
			if (p.Cell(place).Node(n) == nil) != down {
				t.Errorf("%d: node %d: down %t", place, n, !down)
			}
		}
	}
}

// P28.2: EntCrash and EntBoot: of each cell, by place rising, that node, and what of its loose writes survives.
func TestCrashAndBoot(t *testing.T) {
	p := full(t)
	want(t, p, gone(1), told(1, 0, api.OK))
	for _, place := range []int{3, 0, 2} {
		want(t, p, line(place, "make a 1"))
		want(t, p, line(place, "make b 1"))
	}
	for _, n := range []int{-1, 2, math.MaxInt, math.MinInt} {
		want(t, p, crash(n, 1))
		want(t, p, boot(n, 1))
	}
	want(t, p, crash(1))
	want(t, p, crash(0), told(0, 1, api.ErrLost), told(0, 2, api.ErrLost), told(2, 1, api.ErrLost), told(2, 2, api.ErrLost), told(3, 1, api.ErrLost), told(3, 2, api.ErrLost))
	want(t, p, crash(0))
	for _, place := range []int{0, 2, 3} {
		if p.Cell(place).Node(0) != nil || p.Cell(place).Node(1) != nil {
			t.Errorf("%d: open", place)
		}
	}
	// A tenant that is made while the nodes are down has open ones.
	want(t, p, makes(1, key(1)), told(1, 0, api.OK))
	want(t, p, line(1, "make a 1"))
	want(t, p, boot(0))
	for place := range 4 {
		if p.Cell(place).Node(0) == nil || (p.Cell(place).Node(1) == nil) != (place != 1) {
			t.Errorf("%d: other nodes are open", place)
		}
	}
	want(t, p, boot(1))
	want(t, p, tick(), told(1, 1, api.OK))
}

// P28.2: the keep of EntCrash and EntBoot is each disk's.
func TestKeep(t *testing.T) {
	for _, kind := range []int{api.EntCrash, api.EntBoot} {
		for keep := range 2 {
			p := full(t)
			for place := range 4 {
				want(t, p, fuse(place, 0, 1))
				want(t, p, line(place, "make a 1"), told(place, 1, api.ErrLost))
			}
			want(t, p, api.Entry{Kind: kind, Data: []byte{byte(keep)}})
			want(t, p, boot(0))
			for place := range 4 {
				// Its label, with Next 2 and what is dirty, was the loose write; the sync has the next number.
				l := api.Label{Epoch: 1, Next: 1}
				if keep == 1 {
					l = api.Label{Epoch: 1, Next: 3, Dirty: 3}
				}
				if got := p.Cell(place).Node(0).Label(); got != l {
					t.Errorf("%d: %v, want %v", place, got, l)
				}
			}
		}
	}
}

// P28.2: what Boot brings about is told.
func TestBootTells(t *testing.T) {
	p := full(t)
	for place := range 4 {
		want(t, p, line(place, "make a 1"))
	}
	want(t, p, crash(1))
	ticks(t, p, 8)
	for n := range 4 {
		want(t, p, tick(), told((n+1)%4, 1, api.OK))
	}
	want(t, p, boot(1))
	ticks(t, p, 8)
	for place := range 4 {
		if !p.Cell(place).Desk().Sync {
			t.Errorf("%d: not Sync", place)
		}
	}
}

// P28.2: other kinds: nothing.
func TestOtherKinds(t *testing.T) {
	p := full(t)
	for _, kind := range kinds()[11:] {
		for place := range 4 {
			want(t, p, api.Entry{Kind: kind, Place: place, Node: 0, N: 1, Data: []byte("key"), Text: "status"})
			want(t, p, api.Entry{Kind: kind, Place: -1})
		}
	}
	for place := range 4 {
		want(t, p, line(place, "status"), told(place, 1, api.OK, 0, 1, 0, 0, 0, 1, 0, 0))
	}
}

// volumes are names that the entries by lot speak of.
func volumes() []string { return []string{"a", "b", "data", "x"} }

// texts are lines that the entries by lot say.
func texts() []string {
	return []string{"make a 1", "make b 4", "make data 3", "make x 2", "gone a", "gone data", "gone b", "mint a 3 50", "mint * 1 9", "revoke", "promote 0", "promote 1", "promote 1", "force 0", "force 1", "status", "nonsense"}
}

// ownByLot is an entry of a tenant's own.
func ownByLot(lot *rand.Rand, place int) api.Entry {
	name := volumes()[lot.Intn(4)]
	switch lot.Intn(12) {
	case 0, 1:
		return fate(place, lot.Intn(18)-1)
	case 2:
		return fuse(place, lot.Intn(2), lot.Intn(30)-2)
	case 3, 4, 5:
		all := texts()
		if lot.Intn(3) > 0 {
			all = all[:4]
		}
		return line(place, all[lot.Intn(len(all))])
	case 6, 7:
		return asks(place, request(place, api.AskRead, name, lot.Intn(5), api.Block{}, 500))
	case 8:
		b := make([]byte, lot.Intn(90))
		lot.Read(b)
		return asks(place, b)
	}
	var data api.Block
	lot.Read(data[:])
	return asks(place, request(place, api.AskWrite, name, lot.Intn(4), data, 500))
}

// sharedByLot is an entry of all tenants'.
func sharedByLot(lot *rand.Rand) api.Entry {
	keep := make([]byte, lot.Intn(4))
	lot.Read(keep)
	switch lot.Intn(40) {
	case 0:
		return crash(lot.Intn(2), keep...)
	case 1, 2, 3:
		return boot(lot.Intn(2), keep...)
	case 4:
		return cut()
	case 5, 6:
		return heal()
	case 7:
		return gone(lot.Intn(5) - 1)
	case 8, 9, 10:
		place := lot.Intn(6) - 1
		return makes(place, key(max(0, min(3, place))))
	}
	return tick()
}

// scriptByLot are n entries of all kinds, the first four of which make the tenants.
func scriptByLot(lot *rand.Rand, n int) []api.Entry {
	var all []api.Entry
	for place := range 4 {
		all = append(all, makes(place, key(place)))
	}
	for range n {
		if lot.Intn(2) == 0 {
			all = append(all, sharedByLot(lot))
		} else {
			all = append(all, ownByLot(lot, lot.Intn(4)))
		}
	}
	return all
}

// heard is what a new pair tells a place of each entry.
func heard(l []api.Entry, place int) [][]api.Reply {
	p := pair.New()
	var all [][]api.Reply
	for _, e := range l {
		var its []api.Reply
		for _, r := range p.Do(e) {
			if r.Place == place {
				its = append(its, r.Reply)
			}
		}
		all = append(all, its)
	}
	return all
}

// P28.3: by lot: what a tenant is told is the same whatever stands in the places of other tenants' own entries: nothing, others of theirs, or of places that there aren't.
func TestApart(t *testing.T) {
	lot := rand.New(rand.NewSource(283))
	seen := map[api.Errno]int{}
	for range 120 {
		l := scriptByLot(lot, 150)
		place := lot.Intn(4)
		want := heard(l, place)
		for what := range 4 {
			other := slices.Clone(l)
			for k, e := range l {
				if pair.Shared(e) || e.Place == place {
					continue
				}
				switch what {
				case 0:
					other[k] = api.Entry{}
				case 1:
					other[k] = ownByLot(lot, (place+1+lot.Intn(3))%4)
				case 2:
					other[k] = fuse((place+1+lot.Intn(3))%4, lot.Intn(2), 0)
				case 3:
					other[k] = ownByLot(lot, (place+1)%4)
					other[k].Place = []int{-1, 4, 1 << 32}[lot.Intn(3)]
				}
			}
			got := heard(other, place)
			for k := range l {
				if !slices.EqualFunc(got[k], want[k], same) {
					t.Fatalf("%d: entry %d, %v: told %v, want %v", place, k, l[k], got[k], want[k])
				}
				for _, r := range got[k] {
					seen[r.E]++
				}
			}
		}
	}
	for _, e := range []api.Errno{api.OK, api.ErrArg, api.ErrForm, api.ErrName, api.ErrRange, api.ErrQuota, api.ErrQueue, api.ErrDown, api.ErrLost, api.ErrSync, api.ErrTenant} {
		if seen[e] == 0 {
			t.Errorf("no error %d: %v", e, seen)
		}
	}
}

// bare is the chapter's words by hand, over cells of its own.
type bare struct {
	cells map[int]*cell.Cell
	tick  uint32
	cut   bool
}

// does is what the words say of an entry.
func (b *bare) does(e api.Entry) []api.Told {
	var all []api.Told
	tell := func(place int, l ...api.Reply) {
		for _, r := range l {
			all = append(all, api.Told{Place: place, Reply: r})
		}
	}
	c, there := b.cells[e.Place]
	switch e.Kind {
	case 1:
		b.tick++
		if owner, ok := b.cells[int(b.tick%4)]; ok {
			tell(int(b.tick%4), owner.Slot(!b.cut)...)
		}
	case 2:
		if there {
			if f := c.Fate(e.N); f != api.OK {
				tell(e.Place, api.Reply{E: f})
			}
		}
	case 3, 4:
		if !there {
			tell(e.Place, api.Reply{E: api.ErrTenant})
		} else if e.Kind == 3 {
			tell(e.Place, c.Ask(b.tick, e.Data)...)
		} else {
			tell(e.Place, c.Line(b.tick, e.Text)...)
		}
	case 5:
		if there {
			c.Fuse(e.Node, e.N)
		}
	case 6:
		if there || e.Place < 0 || e.Place > 3 {
			tell(e.Place, api.Reply{E: api.ErrTenant})
			break
		}
		made, f := cell.New(e.Place, e.Data)
		if f == api.OK {
			b.cells[e.Place] = made
		}
		tell(e.Place, api.Reply{E: f})
	case 7:
		f := api.ErrTenant
		if there {
			f = api.OK
			delete(b.cells, e.Place)
		}
		tell(e.Place, api.Reply{E: f})
	case 8, 9:
		for place := range 4 {
			if c, ok := b.cells[place]; ok && e.Kind == 8 {
				tell(place, c.Crash(e.Node, e.Data)...)
			} else if ok {
				tell(place, c.Boot(e.Node, e.Data)...)
			}
		}
	case 10:
		b.cut = true
	case 11:
		b.cut = false
	}
	return all
}

// P28.1, P28.2: by lot, held against the words by hand: what is told, the tick, and each cell's log.
func TestByLot(t *testing.T) {
	lot := rand.New(rand.NewSource(28))
	for range 150 {
		p, b := pair.New(), &bare{cells: map[int]*cell.Cell{}}
		for _, e := range scriptByLot(lot, 250) {
			want(t, p, e, b.does(e)...)
			if p.Tick() != b.tick {
				t.Fatalf("tick %d, want %d", p.Tick(), b.tick)
			}
		}
		for place := range 4 {
			c := b.cells[place]
			if (p.Cell(place) == nil) != (c == nil) {
				t.Fatalf("%d: a cell %t", place, c == nil)
			}
			if !slices.Equal(p.Cell(place).Log(), c.Log()) || audit.Verify(c.Log()) != -1 || p.Cell(place).Desk() != c.Desk() {
				t.Fatalf("%d: another log", place)
			}
		}
	}
}

// Rule 2: an entry's bytes are neither changed, their spare room included, nor kept; what is told may be changed.
func TestNothingIsShared(t *testing.T) {
	p := pair.New()
	room := []byte("key1 and more")
	e := api.Entry{Kind: api.EntMake, Place: 1, Data: room[:4]}
	want(t, p, e, told(1, 0, api.OK))
	if string(room) != "key1 and more" {
		t.Errorf("%q", room)
	}
	clear(room)
	want(t, p, line(1, "make a 1"))
	want(t, p, tick(), told(1, 1, api.OK))
	b := request(1, api.AskWrite, "a", 0, api.Block{7}, 99)
	want(t, p, asks(1, b))
	clear(b)
	for range 3 {
		ticks(t, p, 1)
	}
	want(t, p, tick(), told(1, 2, api.OK))
	for k := range 3 {
		got := p.Do(asks(1, request(1, api.AskRead, "a", 0, api.Block{}, 99)))
		if len(got) != 1 || got[0].Id != k+3 || !bytes.Equal(got[0].Data, append([]byte{7}, make([]byte, 31)...)) {
			t.Fatalf("%v", got)
		}
		clear(got[0].Data[:cap(got[0].Data)])
		clear(got[:cap(got)])
	}
}

// P28.1: Cell is the tenant's cell itself.
func TestCell(t *testing.T) {
	p := full(t)
	for place := range 4 {
		c := p.Cell(place)
		if c == nil || p.Cell(place) != c {
			t.Fatalf("%d: another cell", place)
		}
		c.Line(0, "make a 1")
		if p.Cell(place).Queued() != 1 {
			t.Errorf("%d: not itself", place)
		}
	}
	for _, place := range wrongPlaces() {
		if p.Cell(place) != nil {
			t.Errorf("a cell at %d", place)
		}
	}
}
