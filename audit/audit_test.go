package audit_test

import (
	"bytes"
	"crypto/sha256"
	"encoding/binary"
	"encoding/hex"
	"math"
	"math/rand"
	"slices"
	"testing"

	"tollhouse/api"
	"tollhouse/audit"
	"tollhouse/crc"
	"tollhouse/sha"
	"tollhouse/tag"
)

// asked is what was asked the k-th time, some 40 bytes or none.
func asked(k int) []byte {
	if k == 0 {
		return nil
	}
	return bytes.Repeat([]byte{byte(k), byte(k >> 8), 7}, k%40)
}

// answer is the reply to it.
func answer(k int) api.Reply {
	return api.Reply{Id: k + 1, E: api.Errno(k * 5 % 256), Data: bytes.Repeat([]byte{byte(k)}, k%50)}
}

// recordOf is the record, as the chapter's words have it, of a reply that may be.
func recordOf(asked []byte, r api.Reply) []byte {
	hash := sha256.Sum256(asked)
	b := binary.LittleEndian.AppendUint32(nil, uint32(r.Id))
	b = append(b, byte(r.E), 0)
	b = binary.LittleEndian.AppendUint16(b, crc.Check(b))
	return append(hash[:], b...)
}

// chained are n entries, as the chapter's words have them.
func chained(n int) []audit.Entry {
	var all []audit.Entry
	var link api.Digest
	for k := range n {
		r := answer(k)
		link = sha256.Sum256(slices.Concat(link[:], recordOf(asked(k), r)))
		all = append(all, audit.Entry{Asked: sha256.Sum256(asked(k)), Id: r.Id, E: r.E, Link: link})
	}
	return all
}

// added is a log of n entries.
func added(t *testing.T, n int) *audit.Log {
	t.Helper()
	l := &audit.Log{}
	for k := range n {
		if e := l.Add(asked(k), answer(k)); e != api.OK {
			t.Fatalf("entry %d: error %d", k, e)
		}
	}
	return l
}

// wantLog holds Entries and Last against those entries.
func wantLog(t *testing.T, l *audit.Log, want ...audit.Entry) {
	t.Helper()
	if got := l.Entries(); !slices.Equal(got, want) {
		t.Errorf("%d entries, want %d: %v, want %v", len(got), len(want), got, want)
	}
	var last api.Digest
	if len(want) > 0 {
		last = want[len(want)-1].Link
	}
	if got := l.Last(); got != last {
		t.Errorf("last %x, want %x", got, last)
	}
}

// wantWrong holds Verify against that entry.
func wantWrong(t *testing.T, l []audit.Entry, want int) {
	t.Helper()
	if got := audit.Verify(l); got != want {
		t.Errorf("%d entries: %d, want %d", len(l), got, want)
	}
}

// wrongReplies have no record.
func wrongReplies() []api.Reply {
	var all []api.Reply
	for _, id := range []int{-1, -2, 1 << 31, 1<<31 + 1, 1 << 32, 1<<32 + 1, -1 << 31, -1 << 32, math.MaxInt, math.MinInt} {
		all = append(all, api.Reply{Id: id}, api.Reply{Id: id, E: api.ErrForm, Data: []byte{1}})
	}
	for _, e := range []api.Errno{-1, -11, 256, 257, 1 << 16, 1 << 32, math.MaxInt, math.MinInt} {
		all = append(all, api.Reply{Id: 1, E: e}, api.Reply{Id: 1, E: e, Data: []byte{1}}, api.Reply{Id: -1, E: e})
	}
	return all
}

// fromHex are bytes told by their digits.
func fromHex(s string) []byte {
	b, err := hex.DecodeString(s)
	if err != nil {
		panic(err)
	}
	return b
}

// P25.1: a known record and its link, which come from elsewhere (Python's hashlib, and its crc_hqx of the bits in reverse).
func TestKnown(t *testing.T) {
	l := &audit.Log{}
	if e := l.Add([]byte("abc"), api.Reply{Id: 1}); e != api.OK {
		t.Fatalf("error %d", e)
	}
	hash := sha.Sum([]byte("abc"))
	got, e := audit.Record(hash, api.Reply{Id: 1})
	if e != api.OK || !bytes.Equal(got, append(hash[:], fromHex("010000000000a4f3")...)) {
		t.Errorf("%x, error %d", got, e)
	}
	if last := l.Last(); hex.EncodeToString(last[:]) != "bf4ac75b4eedbbc984f7e7d6a0b3a311e47395d7dff7b09f14fcad716c598599" {
		t.Errorf("%x", last)
	}
}

// P25.1: the record of replies at the edges, with Data and without: Data makes no difference, not even one that may not be.
func TestRecord(t *testing.T) {
	for _, id := range []int{0, 1, 255, 256, 0x01020304, 1<<31 - 1} {
		for _, e := range []api.Errno{0, 1, 11, 24, 128, 255} {
			for _, n := range []int{0, 1, 32, 255, 256, 100000} {
				r := api.Reply{Id: id, E: e, Data: make([]byte, n)}
				got, f := audit.Record(sha.Sum([]byte{byte(n)}), r)
				if want := recordOf([]byte{byte(n)}, r); f != api.OK || !bytes.Equal(got, want) {
					t.Errorf("%d, %d, %d bytes: %x, error %d, want %x", id, e, n, got, f, want)
				}
			}
		}
	}
	// Any digest is taken as it is.
	for _, d := range []api.Digest{{}, {1}, {31: 0xff}} {
		got, e := audit.Record(d, api.Reply{Id: 3})
		if e != api.OK || len(got) != 40 || api.Digest(got) != d {
			t.Errorf("%x: %x, error %d", d, got, e)
		}
	}
}

// P25.1: replies that may not be have no record.
func TestNoRecord(t *testing.T) {
	for _, r := range wrongReplies() {
		if got, e := audit.Record(sha.Sum(), r); e != api.ErrForm || len(got) != 0 {
			t.Errorf("%v: %x, error %d", r, got, e)
		}
	}
}

// P25.1: a Log that is zero has no entries.
func TestZero(t *testing.T) {
	var l audit.Log
	wantLog(t, &l)
	wantWrong(t, l.Entries(), -1)
}

// P25.1: of nil: ErrArg, none, zeros.
func TestNil(t *testing.T) {
	var l *audit.Log
	for _, r := range append(wrongReplies(), api.Reply{}, answer(1)) {
		if e := l.Add(asked(1), r); e != api.ErrArg {
			t.Errorf("%v: error %d", r, e)
		}
	}
	wantLog(t, l)
}

// P25.1: behind each Add: one entry more, chained as the words have it; and by sha and tag as well.
func TestAdd(t *testing.T) {
	l := &audit.Log{}
	var records [][]byte
	for k := range 120 {
		if e := l.Add(asked(k), answer(k)); e != api.OK {
			t.Fatalf("entry %d: error %d", k, e)
		}
		wantLog(t, l, chained(k+1)...)
		record, _ := audit.Record(sha.Sum(asked(k)), answer(k))
		records = append(records, record)
		for i, link := range tag.Chain(api.Digest{}, records...) {
			if l.Entries()[i].Link != link {
				t.Fatalf("entry %d: %x, want %x", i, l.Entries()[i].Link, link)
			}
		}
	}
}

// P25.1: what has no record is not added, and nothing changes; Data may be of any size.
func TestAddForm(t *testing.T) {
	l := added(t, 3)
	for _, r := range wrongReplies() {
		if e := l.Add(asked(3), r); e != api.ErrForm {
			t.Errorf("%v: error %d", r, e)
		}
		wantLog(t, l, chained(3)...)
	}
	r := answer(3)
	r.Data = make([]byte, 1000)
	if e := l.Add(asked(3), r); e != api.OK {
		t.Errorf("error %d", e)
	}
	wantLog(t, l, chained(4)...)
	first := &audit.Log{}
	if e := first.Add(nil, api.Reply{Id: -1}); e != api.ErrForm {
		t.Errorf("error %d", e)
	}
	wantLog(t, first)
}

// P25.1: Ids need not rise, and the same may be added twice.
func TestAddAnyOrder(t *testing.T) {
	l := &audit.Log{}
	for _, id := range []int{5, 5, 0, 1<<31 - 1, 3} {
		if e := l.Add([]byte("x"), api.Reply{Id: id}); e != api.OK {
			t.Errorf("error %d", e)
		}
	}
	var ids []int
	links := map[api.Digest]int{}
	for _, entry := range l.Entries() {
		ids = append(ids, entry.Id)
		links[entry.Link]++
	}
	if !slices.Equal(ids, []int{5, 5, 0, 1<<31 - 1, 3}) || len(links) != 5 {
		t.Errorf("%v, %d links", ids, len(links))
	}
	wantWrong(t, l.Entries(), -1)
}

// P25.2, P25.3: of none, and of what Add made, however many: -1.
func TestVerify(t *testing.T) {
	wantWrong(t, nil, -1)
	wantWrong(t, []audit.Entry{}, -1)
	for n := range 60 {
		wantWrong(t, added(t, n).Entries(), -1)
		wantWrong(t, chained(n), -1)
	}
}

// P25.2: each field turned in each entry: it is that entry; and the first one, where several are turned.
func TestVerifyTurned(t *testing.T) {
	turns := []func(entry *audit.Entry){
		func(entry *audit.Entry) { entry.Asked[0] ^= 1 },
		func(entry *audit.Entry) { entry.Asked[31] ^= 0x80 },
		func(entry *audit.Entry) { entry.Id++ },
		func(entry *audit.Entry) { entry.Id ^= 1 << 30 },
		func(entry *audit.Entry) { entry.Id += 1 << 32 },
		func(entry *audit.Entry) { entry.Id = -entry.Id },
		func(entry *audit.Entry) { entry.E ^= 1 },
		func(entry *audit.Entry) { entry.E += 256 },
		func(entry *audit.Entry) { entry.E = -1 },
		func(entry *audit.Entry) { entry.Link[0] ^= 1 },
		func(entry *audit.Entry) { entry.Link[31] ^= 0x80 },
		func(entry *audit.Entry) { entry.Link = api.Digest{} },
		func(entry *audit.Entry) { *entry = audit.Entry{} },
	}
	const n = 9
	for i := range n {
		for _, turn := range turns {
			l := chained(n)
			turn(&l[i])
			wantWrong(t, l, i)
			for j := i + 1; j < n; j++ {
				for _, other := range turns {
					twice := slices.Clone(l)
					other(&twice[j])
					wantWrong(t, twice, i)
				}
			}
		}
	}
}

// P25.2: two entries swapped, one missing, one twice, one without a record at the end.
func TestVerifyMoved(t *testing.T) {
	const n = 9
	for i := range n {
		for j := i + 1; j < n; j++ {
			l := chained(n)
			l[i], l[j] = l[j], l[i]
			wantWrong(t, l, i)
		}
		missing := -1
		if i < n-1 {
			missing = i
		}
		wantWrong(t, slices.Delete(chained(n), i, i+1), missing)
		wantWrong(t, slices.Insert(chained(n), i, chained(n)[i]), i+1)
		wantWrong(t, append(chained(i), audit.Entry{Id: -1}), i)
		wantWrong(t, append(chained(i), audit.Entry{E: 256}, chained(n)[i]), i)
	}
}

// P25.2: an entry that has no record is wrong, whatever its Link is.
func TestVerifyNoRecord(t *testing.T) {
	for n := range 4 {
		l := chained(n)
		var last api.Digest
		if n > 0 {
			last = l[n-1].Link
		}
		for _, link := range []api.Digest{{}, last, tag.Step(last), tag.Step(last, make([]byte, 40))} {
			for _, wrong := range []audit.Entry{{Id: -1, Link: link}, {Id: 1 << 31, Link: link}, {E: 256, Link: link}, {E: -1, Link: link}} {
				wantWrong(t, append(l, wrong), n)
				// Nor does what stands behind it matter, be it chained to it as if there were none.
				behind := audit.Entry{Asked: sha256.Sum256(asked(9)), Id: answer(9).Id, E: answer(9).E}
				behind.Link = tag.Step(link, recordOf(asked(9), answer(9)))
				wantWrong(t, append(l, wrong, behind), n)
			}
		}
	}
}

// P25.2: a chain that does not begin with zeros is wrong from its first entry on.
func TestVerifyBeginning(t *testing.T) {
	l := chained(3)
	var link = api.Digest{1}
	for k := range l {
		link = tag.Step(link, recordOf(asked(k), answer(k)))
		l[k].Link = link
	}
	wantWrong(t, l, 0)
	wantWrong(t, chained(3)[1:], 0)
}

// P25.2, P25.3: by lot: what Add made is right, and with anything turned it is not.
func TestByLot(t *testing.T) {
	lot := rand.New(rand.NewSource(25))
	for range 200 {
		log := &audit.Log{}
		n := 1 + lot.Intn(20)
		for range n {
			b := make([]byte, lot.Intn(90))
			lot.Read(b)
			if e := log.Add(b, api.Reply{Id: lot.Intn(1 << 31), E: api.Errno(lot.Intn(256))}); e != api.OK {
				t.Fatalf("error %d", e)
			}
		}
		wantWrong(t, log.Entries(), -1)
		for i := range n {
			l := log.Entries()
			bit := lot.Intn(256)
			switch lot.Intn(3) {
			case 0:
				l[i].Link[bit/8] ^= 1 << (bit % 8)
			case 1:
				l[i].Asked[bit/8] ^= 1 << (bit % 8)
			case 2:
				l[i].Id ^= 1 << (bit % 31)
			}
			wantWrong(t, l, i)
		}
	}
}

// Rule 2: what is told may be changed, its spare room too, and changes nothing; no two lists share any.
func TestToldIsNew(t *testing.T) {
	l := added(t, 5)
	first, second := l.Entries(), l.Entries()
	first = first[:cap(first)]
	clear(first)
	wantLog(t, l, chained(5)...)
	l.Add(asked(5), answer(5))
	wantLog(t, l, chained(6)...)
	if !slices.Equal(second, chained(5)) {
		t.Error(second)
	}
	wantWrong(t, second, -1)
	if !slices.Equal(second, chained(5)) {
		t.Error("Verify changes what it is handed")
	}
	hash := sha.Sum()
	record, _ := audit.Record(hash, answer(1))
	again, _ := audit.Record(hash, answer(1))
	clear(record[:cap(record)])
	if !bytes.Equal(again, recordOf(nil, answer(1))) {
		t.Errorf("%x", again)
	}
}

// Rule 2: what is handed in is neither changed, its spare room included, nor kept.
func TestAddKeepsNothing(t *testing.T) {
	room := []byte{1, 2, 3, 4, 5, 6, 7}
	data := []byte{9, 8, 7, 6}
	l := &audit.Log{}
	if e := l.Add(room[:3], api.Reply{Id: 1, Data: data[:2]}); e != api.OK {
		t.Errorf("error %d", e)
	}
	if !bytes.Equal(room, []byte{1, 2, 3, 4, 5, 6, 7}) || !bytes.Equal(data, []byte{9, 8, 7, 6}) {
		t.Error(room, data)
	}
	clear(room)
	clear(data)
	if l.Entries()[0].Asked != sha256.Sum256([]byte{1, 2, 3}) {
		t.Error("kept")
	}
	wantWrong(t, l.Entries(), -1)
}

// Two logs are nothing to each other.
func TestApart(t *testing.T) {
	a, b := added(t, 2), added(t, 4)
	a.Add(asked(2), answer(2))
	wantLog(t, a, chained(3)...)
	wantLog(t, b, chained(4)...)
}
