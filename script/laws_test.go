package script_test

import (
	"crypto/sha256"
	"math/rand"
	"slices"
	"strconv"
	"testing"

	"tollhouse/api"
	"tollhouse/audit"
	"tollhouse/desk"
	"tollhouse/model"
	"tollhouse/pair"
	"tollhouse/script"
	"tollhouse/slots"
)

// F1: by lot: what a tenant is told, entry by entry, is the same whatever stands in the places of other tenants' own entries.
func TestApart(t *testing.T) {
	lot := rand.New(rand.NewSource(1))
	for range 60 {
		l := scriptByLot(lot, 200)
		for place := range 4 {
			want := script.Of(place, script.Play(pair.New(), l...))
			for range 3 {
				other := script.Own(place, l...)
				for k, e := range l {
					if pair.Shared(e) || e.Place == place {
						continue
					}
					if other[k] = ownByLot(lot, (place+1+lot.Intn(3))%4); lot.Intn(8) == 0 {
						other[k] = l[lot.Intn(len(l))]
						if pair.Shared(other[k]) || other[k].Place == place {
							other[k] = api.Entry{Kind: 12, Place: place + 1}
						}
					}
				}
				got := script.Of(place, script.Play(pair.New(), other...))
				for k := range want {
					if !sameReplies(got[k], want[k]) {
						t.Fatalf("place %d: %v: told %v, want %v", place, l[k], got[k], want[k])
					}
				}
			}
		}
	}
}

// F1: another tenant's full queue, blown fuses and spent fates: nobody else hears of it.
func TestApartKnown(t *testing.T) {
	l := []api.Entry{makes(0), makes(1)}
	for range 9 {
		l = append(l, says(0, "make a 1"))
	}
	l = append(l, line("fuse 0 0 0"), line("fuse 0 1 0"))
	for range 70 {
		l = append(l, line("fate 0 1"))
	}
	l = append(l, says(1, "make a 1"), line("tick"), line("crash 0 -"), line("boot 0 -"), says(1, "status"))
	got := script.Of(1, script.Play(pair.New(), l...))
	for k, e := range l {
		var want []api.Reply
		switch {
		case k == 1:
			want = []api.Reply{{}}
		case e.Kind == api.EntTick:
			want = []api.Reply{{Id: 1}}
		case e.Text == "status":
			want = []api.Reply{{Id: 2, Data: []byte{0, 1, 0, 0, 0, 1, 0, 0}}}
		}
		if !sameReplies(got[k], want) {
			t.Errorf("%v: told %v, want %v", e, got[k], want)
		}
	}
}

// tenant is one of a pair, as its own answers let it look.
type tenant struct {
	t     *testing.T
	p     *pair.Pair
	place int
	*model.Model
	id      int
	asked   map[int]api.Entry
	waiting map[int]func() api.Errno // what the model says to what waits
	last    int                      // that waited and was answered
	told    []api.Reply
	log     int // how many of told are held against the log
	seen    map[api.Errno]int
}

// hears takes what was told to the tenant, in order; what waited is done by the model when it is answered.
func (x *tenant) hears(l []api.Told) {
	x.t.Helper()
	for _, r := range l {
		if r.Place != x.place || r.Id == 0 {
			continue
		}
		x.told = append(x.told, r.Reply)
		x.seen[r.E]++
		says, ok := x.waiting[r.Id]
		if !ok {
			continue
		}
		delete(x.waiting, r.Id)
		if r.E == api.ErrQueue {
			continue
		}
		if e := says(); r.E != e || len(r.Data) != 0 || r.Id < x.last {
			x.t.Fatalf("%v behind %d, want error %d", r, x.last, e)
		}
		x.last = r.Id
	}
	log := x.p.Cell(x.place).Log()
	if len(log) != len(x.told) {
		x.t.Fatalf("%d logged, %d told", len(log), len(x.told))
	}
	for ; x.log < len(log); x.log++ {
		r, got := x.told[x.log], log[x.log]
		asked := x.asked[r.Id]
		what := append([]byte(asked.Text), asked.Data...)
		if got.Id != r.Id || got.E != r.E || got.Asked != sha256.Sum256(what) {
			x.t.Fatalf("logged %v, want %v", got, r)
		}
	}
}

// does hands in an entry of the tenant's own, and is what it is told at once.
func (x *tenant) does(e api.Entry, all []*tenant) []api.Told {
	x.t.Helper()
	if e.Kind == api.EntAsk || e.Kind == api.EntLine {
		x.id++
		x.asked[x.id] = e
	}
	l := x.p.Do(e)
	for _, y := range all {
		y.hears(l)
	}
	return l
}

// step is one entry by lot of the tenant's own, without crashes and fuses.
func (x *tenant) step(lot *rand.Rand, all []*tenant) {
	x.t.Helper()
	name, n := volumes()[lot.Intn(4)], lot.Intn(6)
	wait := func(does func() api.Errno, e api.Entry) {
		x.waiting[x.id+1] = does
		x.does(e, all)
	}
	switch k := lot.Intn(16); {
	case k < 2:
		wait(func() api.Errno { return x.Model.Make(name, n) }, says(x.place, "make "+name+" "+strconv.Itoa(n)))
	case k < 3:
		wait(func() api.Errno { return x.Model.Gone(name) }, says(x.place, "gone "+name))
	case k < 8:
		data := api.Block{byte(lot.Intn(256)), byte(lot.Intn(256)), byte(x.id), 31: 1}
		wait(func() api.Errno { return x.Model.Write(name, n, data) }, asks(x.place, api.AskWrite, name, n, data))
	case k < 12:
		x.reads(name, n, all)
	case k < 14:
		x.does(api.Entry{Kind: api.EntFate, Place: x.place, N: lot.Intn(16) & lot.Intn(16)}, all)
	case k < 15:
		// Refused, or nothing to its volumes.
		x.does([]api.Entry{
			says(x.place, "nonsense"), says(x.place, "status"), says(x.place, "mint * 3 9"), says(x.place, "promote 2"), says(x.place, "mint a 9 9"),
			{Kind: api.EntAsk, Place: x.place, Data: []byte{1, 2}},
			{Kind: api.EntAsk, Place: x.place, Data: asks((x.place+1)%4, api.AskWrite, name, 0, api.Block{9}).Data},
		}[lot.Intn(7)], all)
	default:
		// Where nothing waits, and both nodes have the same, another primary changes nothing.
		if d := x.p.Cell(x.place).Desk(); d.Sync && x.p.Cell(x.place).Queued() == 0 {
			x.does(says(x.place, "promote "+strconv.Itoa(d.Other())), all)
		}
	}
}

// reads asks for a block, and holds what is told against the model's.
func (x *tenant) reads(name string, at int, all []*tenant) {
	x.t.Helper()
	l := x.does(asks(x.place, api.AskRead, name, at, api.Block{}), all)
	want, e := x.Model.Read(name, at)
	if len(l) != 1 || l[0].Place != x.place || l[0].E != e || e == api.OK && api.Block(l[0].Data) != want || e != api.OK && len(l[0].Data) != 0 {
		x.t.Fatalf("%q at %d: %v, want %x, error %d", name, at, l, want, e)
	}
}

// F2: by lot: without crashes each tenant's answers are its model's, in order; what is refused changes nothing, and is logged.
func TestAsOneMachine(t *testing.T) {
	lot := rand.New(rand.NewSource(2))
	seen := map[api.Errno]int{}
	for range 60 {
		p := pair.New()
		var all []*tenant
		for place := range 4 {
			p.Do(makes(place))
			all = append(all, &tenant{t: t, p: p, place: place, Model: model.New(), asked: map[int]api.Entry{}, waiting: map[int]func() api.Errno{}, seen: seen})
		}
		shared := func(s string) {
			l := p.Do(line(s))
			for _, x := range all {
				x.hears(l)
			}
		}
		for range 500 {
			switch k := lot.Intn(30); {
			case k < 12:
				shared("tick")
			case k < 13:
				shared("cut")
			case k < 15:
				shared("heal")
			default:
				all[lot.Intn(4)].step(lot, all)
			}
		}
		shared("heal")
		for range 4 * 90 {
			shared("tick")
		}
		for _, x := range all {
			if len(x.waiting) > 0 {
				t.Fatalf("%d: %v wait still", x.place, x.waiting)
			}
			for _, name := range volumes() {
				for at := range 5 {
					x.reads(name, at, all)
				}
			}
			if i := audit.Verify(p.Cell(x.place).Log()); i != -1 {
				t.Fatalf("%d: the log is wrong at %d", x.place, i)
			}
		}
	}
	for _, e := range []api.Errno{api.OK, api.ErrArg, api.ErrForm, api.ErrToken, api.ErrName, api.ErrRange, api.ErrQuota, api.ErrQueue} {
		if seen[e] < 20 {
			t.Errorf("no error %d: %v", e, seen)
		}
	}
}

// block is what a tenant knows of one of its blocks: what was answered last, and what was asked behind that, and may be done.
type block struct {
	last  api.Block
	later map[int]api.Block
}

// may tells whether it may have these bytes.
func (b *block) may(data api.Block) bool {
	if data == b.last {
		return true
	}
	for _, d := range b.later {
		if d == data {
			return true
		}
	}
	return false
}

// watcher is a tenant of a volume "data", whose writes it watches over crashes; and whether there is another one, "b", is like one more block.
type watcher struct {
	place  int
	id     int
	blocks [5]*block
	of     map[int]int // by Id, which block is written
}

// there is what block 4 has while there is the volume "b".
func there() api.Block { return api.Block{1} }

// newWatcher is one of a tenant that is made and has its volume.
func newWatcher(t *testing.T, p *pair.Pair, place int, played *[]api.Entry) *watcher {
	t.Helper()
	w := &watcher{place: place, of: map[int]int{}}
	for k := range w.blocks {
		w.blocks[k] = &block{later: map[int]api.Block{}}
	}
	*played = append(*played, makes(place), says(place, "make data 4"), line("tick"), line("tick"), line("tick"), line("tick"))
	for _, e := range (*played)[len(*played)-6:] {
		p.Do(e)
	}
	if n := p.Cell(place).Queued(); n != 0 {
		t.Fatalf("%d wait", n)
	}
	w.id = 1
	return w
}

// write is an entry that writes block k.
func (w *watcher) write(k int, lot *rand.Rand) api.Entry {
	w.id++
	w.of[w.id] = k
	if k < 4 {
		data := api.Block{7, byte(w.id), byte(w.id >> 8), byte(k), 31: byte(w.place)}
		w.blocks[k].later[w.id] = data
		return asks(w.place, api.AskWrite, "data", k, data)
	}
	if lot.Intn(2) == 0 {
		w.blocks[k].later[w.id] = there()
		return says(w.place, "make b 2")
	}
	w.blocks[k].later[w.id] = api.Block{}
	return says(w.place, "gone b")
}

// hears takes the answers to writes.
func (w *watcher) hears(l []api.Told) {
	for _, r := range l {
		k, ok := w.of[r.Id]
		if r.Place != w.place || !ok {
			continue
		}
		b := w.blocks[k]
		switch r.E {
		case api.ErrLost:
		case api.OK:
			b.last = b.later[r.Id]
			for id := range b.later {
				if id <= r.Id {
					delete(b.later, id)
				}
			}
		default:
			delete(b.later, r.Id)
		}
	}
}

// check reads all blocks of the pair's primary, if it is up; Ids are used up.
func (w *watcher) check(t *testing.T, p *pair.Pair) bool {
	t.Helper()
	up := true
	for k := range 5 {
		volume, at := "data", k
		if k == 4 {
			volume, at = "b", 0
		}
		w.id++
		l := p.Do(asks(w.place, api.AskRead, volume, at, api.Block{}))
		if len(l) != 1 || l[0].Id != w.id {
			t.Fatalf("%v", l)
		}
		var got api.Block
		switch {
		case l[0].E == api.ErrDown:
			up = false
			continue
		case k == 4 && l[0].E == api.OK:
			got = there()
		case k == 4 && l[0].E == api.ErrName:
		case l[0].E == api.OK:
			got = api.Block(l[0].Data)
		default:
			t.Fatalf("%v", l)
		}
		if !w.blocks[k].may(got) {
			t.Fatalf("place %d: block %d: %x, answered last %x, later %v, %v", w.place, k, got, w.blocks[k].last, w.blocks[k].later, p.Cell(w.place).Desk())
		}
	}
	return up
}

// lost holds that, while the desk says Sync, either node may be lost for ever: the same entries, and then only the other node.
func (w *watcher) lost(t *testing.T, played []api.Entry) int {
	t.Helper()
	done := 0
	for n := range 2 {
		p := pair.New()
		script.Play(p, played...)
		d := p.Cell(w.place).Desk()
		if !d.Sync {
			continue
		}
		done++
		p.Do(api.Entry{Kind: api.EntCrash, Node: n})
		p.Do(api.Entry{Kind: api.EntFuse, Place: w.place, Node: 1 - n, N: -1})
		p.Do(api.Entry{Kind: api.EntBoot, Node: 1 - n})
		v := *w
		if n == d.Primary {
			v.id++
			l := p.Do(says(w.place, "promote "+strconv.Itoa(1-n)))
			if len(l) != 1 || l[0].Id != v.id || l[0].E != api.OK {
				t.Fatalf("promote: %v, %v", l, d)
			}
		}
		if !v.check(t, p) {
			t.Fatal("the primary is down")
		}
	}
	return done
}

// crashes is an entry by lot of crashes, fuses, boots, slots, fates, cuts, and of primaries without force.
func crashes(lot *rand.Rand, w *watcher) api.Entry {
	switch k := lot.Intn(40); {
	case k < 1:
		return api.Entry{Kind: api.EntCrash, Node: lot.Intn(2), Data: keepByLot(lot)}
	case k < 5:
		return api.Entry{Kind: api.EntBoot, Node: lot.Intn(2), Data: keepByLot(lot)}
	case k < 6:
		return api.Entry{Kind: api.EntFuse, Place: w.place, Node: lot.Intn(2), N: lot.Intn(25)}
	case k < 7:
		return line("cut")
	case k < 9:
		return line("heal")
	case k < 12:
		return api.Entry{Kind: api.EntFate, Place: w.place, N: lot.Intn(16) & lot.Intn(16)}
	case k < 14:
		w.id++
		return says(w.place, "promote "+strconv.Itoa(lot.Intn(2)))
	case k < 24:
		return w.write(lot.Intn(5), lot)
	}
	return line("tick")
}

// F3: by lot: behind any crashes, fuses and boots a block is what was answered last, or something that was asked later; while the desk says Sync, of either node alone.
func TestNothingAnsweredIsLost(t *testing.T) {
	lot := rand.New(rand.NewSource(3))
	reads, losses := 0, 0
	for range 150 {
		p := pair.New()
		var played []api.Entry
		// Two tenants, so that the one's entries are others' to the other one.
		watchers := []*watcher{newWatcher(t, p, 1, &played), newWatcher(t, p, 2, &played)}
		for range 250 {
			e := crashes(lot, watchers[lot.Intn(2)])
			played = append(played, e)
			l := p.Do(e)
			for _, w := range watchers {
				w.hears(l)
			}
			w := watchers[lot.Intn(2)]
			if lot.Intn(10) == 0 {
				// The reads are entries, too.
				from := w.id
				if w.check(t, p) {
					reads++
				}
				for range w.id - from {
					played = append(played, says(w.place, "status"))
				}
			}
			if lot.Intn(25) == 0 {
				losses += w.lost(t, played)
			}
		}
	}
	if reads < 1000 || losses < 500 {
		t.Errorf("%d reads, %d losses", reads, losses)
	}
}

// F4: by lot: epochs rise with each promotion; in one epoch one node alone is primary; what is not Sync is not promoted without force.
func TestOneNodeAnEpoch(t *testing.T) {
	lot := rand.New(rand.NewSource(4))
	turns, refused, fallen := 0, 0, 0
	for range 100 {
		p := pair.New()
		var primaries [4]map[uint32]int
		var desks [4]desk.Desk
		for range 400 {
			e := scriptByLot(lot, 1)[lot.Intn(5)]
			if lot.Intn(5) == 0 {
				e = says(lot.Intn(4), []string{"promote 0", "promote 1", "force 0", "force 1"}[lot.Intn(4)])
				// Some of them fall by their label's write, or its flush.
				if lot.Intn(6) == 0 {
					p.Do(api.Entry{Kind: api.EntFuse, Place: e.Place, Node: lot.Intn(2), N: lot.Intn(2)})
				}
			}
			up := p.Cell(e.Place).Node(1-desks[max(0, min(3, e.Place))].Primary) != nil
			l := p.Do(e)
			for place := range 4 {
				was, now := desks[place], p.Cell(place).Desk()
				if e.Kind == api.EntMake && e.Place == place && l[0].E == api.OK {
					primaries[place], was = map[uint32]int{}, desk.New()
				}
				if p.Cell(place) == nil {
					desks[place] = desk.Desk{}
					continue
				}
				if at, ok := primaries[place][now.Epoch]; ok && at != now.Primary {
					t.Fatalf("%d: %v: %d was primary", place, now, at)
				}
				primaries[place][now.Epoch] = now.Primary
				ours := e.Kind == api.EntLine && e.Place == place
				promoted := ours && slices.ContainsFunc(l, func(r api.Told) bool { return r.E == api.OK }) && now.Epoch != was.Epoch
				switch {
				case promoted:
					turns++
					force := e.Text == "force 0" || e.Text == "force 1"
					if now.Epoch != was.Epoch+1 || now.Primary != was.Other() || !was.Sync && !force || !up {
						t.Fatalf("%d: %q: %v behind %v", place, e.Text, now, was)
					}
				case now.Epoch != was.Epoch:
					// A node that fell while it was to be promoted.
					fallen++
					if !ours || now.Epoch != was.Epoch+1 || now.Primary != was.Primary {
						t.Fatalf("%d: %v: %v behind %v", place, e, now, was)
					}
				case now.Primary != was.Primary:
					t.Fatalf("%d: %v behind %v", place, now, was)
				}
				if ours && !was.Sync && up && e.Text == "promote "+strconv.Itoa(was.Other()) {
					if refused++; l[0].E != api.ErrSync {
						t.Fatalf("%d: %v", place, l)
					}
				}
				desks[place] = now
			}
		}
	}
	if turns < 500 || refused < 50 || fallen < 100 {
		t.Errorf("%d turns, %d refused, %d fallen", turns, refused, fallen)
	}
}

// bads are fates by which a slot is no good one.
func bads() []int { return []int{1, 3, 4, 5, 6, 7, 9, 11, 12, 13, 15} }

// tickOf is one tick, whose slot, if it is the place's, has that fate.
func tickOf(p *pair.Pair, place, fate int) {
	if slots.Owner(p.Tick()+1) == place {
		p.Do(api.Entry{Kind: api.EntFate, Place: place, N: fate})
	}
	p.Do(line("tick"))
}

// unsettle is a pair that has gone through anything, with no fate of that place waiting.
func unsettle(lot *rand.Rand, place int) *pair.Pair {
	p := pair.New()
	for k := range 4 {
		p.Do(makes(k))
	}
	for range lot.Intn(300) {
		var e api.Entry
		switch lot.Intn(12) {
		case 0, 1, 2, 3:
			tickOf(p, place, lot.Intn(16)&lot.Intn(16))
			continue
		case 4:
			e = says(place, "force "+strconv.Itoa(lot.Intn(2)))
		case 5:
			e = sharedByLot(lot)
			if e.Kind == api.EntTick || e.Kind == api.EntGone {
				continue
			}
		default:
			e = ownByLot(lot, place)
		}
		if e.Kind != api.EntFate {
			p.Do(e)
		}
	}
	return p
}

// settled tells whether a tenant is: Sync, nothing waits, both nodes have the same blocks.
func settled(p *pair.Pair, place int) bool {
	c := p.Cell(place)
	if !c.Desk().Sync || c.Queued() != 0 {
		return false
	}
	for i := range api.Blocks {
		a, e := c.Node(0).Block(i)
		b, f := c.Node(1).Block(i)
		if a != b || e != api.OK || f != api.OK {
			return false
		}
	}
	return true
}

// F5: by lot: once both nodes are open, the link whole, and every k-th own slot good: within Bound(k) ticks a tenant is settled, and stays so, whatever other tenants do.
func TestItSettles(t *testing.T) {
	lot := rand.New(rand.NewSource(5))
	unsettled, longest := 0, 0.0
	for range 600 {
		place := lot.Intn(4)
		p := unsettle(lot, place)
		k := 1 + lot.Intn(6)
		if lot.Intn(100) == 0 {
			k = 40
		}
		p.Do(line("heal"))
		for n := range 2 {
			p.Do(api.Entry{Kind: api.EntFuse, Place: place, Node: n, N: -1})
			p.Do(api.Entry{Kind: api.EntBoot, Node: n})
		}
		for range lot.Intn(6) {
			if e := ownByLot(lot, place); e.Kind == api.EntAsk || e.Kind == api.EntLine {
				p.Do(e)
			}
		}
		if !settled(p, place) {
			unsettled++
		}
		own, took := 0, 0
		for n := 1; n <= slots.Bound(k); n++ {
			fate := []int{0, 2, 8, 10}[lot.Intn(4)]
			if slots.Owner(p.Tick()+1) == place {
				if own++; own%k != 0 {
					fate = bads()[lot.Intn(len(bads()))]
				}
			}
			tickOf(p, place, fate)
			if e := ownByLot(lot, (place+1+lot.Intn(3))%4); lot.Intn(3) == 0 {
				p.Do(e)
			}
			if !settled(p, place) {
				took = n
			}
		}
		if !settled(p, place) {
			t.Fatalf("place %d: k %d: %v, %d wait", place, k, p.Cell(place).Desk(), p.Cell(place).Queued())
		}
		longest = max(longest, float64(took)/float64(slots.Bound(k)))
	}
	if unsettled < 200 || longest < 0.3 {
		t.Errorf("%d were not settled, the longest took %f of the bound", unsettled, longest)
	}
}

// The examples of the whole, one behind the other.
func TestExamples(t *testing.T) {
	p := pair.New()
	want := func(e api.Entry, l ...api.Reply) {
		t.Helper()
		var got []api.Reply
		for _, r := range p.Do(e) {
			if r.Place == 1 {
				got = append(got, r.Reply)
			}
		}
		if !sameReplies(got, l) {
			t.Errorf("%v: told %v, want %v", e, got, l)
		}
	}
	read := func(at int) api.Entry { return asks(1, api.AskRead, "data", at, api.Block{}) }
	write := func(at int, b byte) api.Entry { return asks(1, api.AskWrite, "data", at, api.Block{b}) }
	has := func(id int, b byte) api.Reply {
		return api.Reply{Id: id, Data: append([]byte{b}, make([]byte, 31)...)}
	}
	slot := func(l ...api.Reply) {
		t.Helper()
		for p.Tick()%4 != 0 {
			want(line("tick"))
		}
		want(line("tick"), l...)
	}
	want(makes(1), api.Reply{})
	want(makes(2))
	// 1: zeros.
	want(says(1, "make data 3"))
	slot(api.Reply{Id: 1})
	want(read(0), has(2, 0))
	// 2 and 3: ahead of the ack what was there, behind it the new one.
	want(write(0, 5))
	want(read(0), has(4, 0))
	slot(api.Reply{Id: 3})
	want(read(0), has(5, 5))
	// 4: the fifth is refused.
	for k := range 4 {
		want(write(k%3, byte(10+k)))
	}
	want(write(0, 99), api.Reply{Id: 10, E: api.ErrQueue})
	// 5: three own slots without an ack: answered alone.
	want(line("cut"))
	slot()
	slot()
	slot(api.Reply{Id: 6}, api.Reply{Id: 7}, api.Reply{Id: 8}, api.Reply{Id: 9})
	want(says(1, "status"), api.Reply{Id: 11, Data: []byte{0, 1, 0, 0, 0, 0, 0, 3}})
	// 8: while it is not Sync a promotion is refused.
	want(says(1, "promote 1"), api.Reply{Id: 12, E: api.ErrSync})
	// 6: the link is whole: a block a slot, and Sync.
	want(line("heal"))
	slot()
	slot()
	slot()
	want(says(1, "status"), api.Reply{Id: 13, Data: []byte{0, 1, 0, 0, 0, 1, 0, 0}})
	// 7: the primary is lost, the other one promoted: all that was answered is there.
	want(line("crash 0 -"))
	want(read(0), api.Reply{Id: 14, E: api.ErrDown})
	want(says(1, "promote 1"), api.Reply{Id: 15})
	for at, b := range []byte{13, 11, 12} {
		want(read(at), has(16+at, b))
	}
	// 8: but by force.
	want(line("boot 0 -"))
	want(says(1, "promote 0"), api.Reply{Id: 19, E: api.ErrSync})
	want(says(1, "force 0"), api.Reply{Id: 20})
	want(read(0), has(21, 13))
	// 9: a token of another tenant: refused, and logged.
	stranger := asks(2, api.AskRead, "data", 0, api.Block{})
	stranger.Place = 1
	want(stranger, api.Reply{Id: 22, E: api.ErrToken})
	log := p.Cell(1).Log()
	if last := log[len(log)-1]; last.Id != 22 || last.E != api.ErrToken || last.Asked != sha256.Sum256(stranger.Data) || len(log) != 22 || audit.Verify(log) != -1 {
		t.Errorf("%v", last)
	}
	// 10: another tenant's full queue: nobody else hears of it.
	for range 9 {
		want(says(2, "make a 1"))
	}
	want(read(0), has(23, 13))
	if n := p.Cell(2).Queued(); n != 4 {
		t.Errorf("%d wait", n)
	}
}
