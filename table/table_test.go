package table_test

import (
	"math"
	"math/rand"
	"slices"
	"strings"
	"testing"

	"tollhouse/api"
	"tollhouse/table"
)

// volume is one of that name and those blocks.
func volume(name string, blocks ...int) api.Volume {
	return api.Volume{Name: name, Blocks: blocks}
}

// volumes is a list of them.
func volumes(l ...api.Volume) []api.Volume { return l }

// mayBe is what the chapter's words say of volumes, told by counting names and blocks.
func mayBe(l []api.Volume) bool {
	if len(l) > 3 {
		return false
	}
	byName, byBlock := map[string]int{}, map[int]int{}
	for _, v := range l {
		byName[v.Name]++
		rest := strings.Trim(v.Name, "abcdefghijklmnopqrstuvwxyz")
		if rest != "" || len(v.Name) == 0 || len(v.Name) >= 5 || byName[v.Name] > 1 || len(v.Blocks) == 0 || len(v.Blocks) >= 5 {
			return false
		}
		for _, b := range v.Blocks {
			byBlock[b]++
			if b <= 0 || b >= 12 || byBlock[b] > 1 {
				return false
			}
		}
	}
	return true
}

// bytesOf are the volumes as the chapter's words have them, whether they may be or not.
func bytesOf(l []api.Volume) api.Block {
	all := []byte{byte(len(l))}
	for _, v := range l {
		all = append(all, (v.Name + "\x00\x00\x00\x00")[:4]...)
		all = append(all, byte(len(v.Blocks)))
		for _, b := range v.Blocks {
			all = append(all, byte(b))
		}
		for range 4 - len(v.Blocks) {
			all = append(all, 0)
		}
	}
	var block api.Block
	copy(block[:], all)
	return block
}

// readByWords are the volumes that the bytes tell, read one behind the other; false, if they are no table's.
func readByWords(block api.Block) ([]api.Volume, bool) {
	rest := block[:]
	next := func() byte {
		b := rest[0]
		rest = rest[1:]
		return b
	}
	count := int(next())
	if count >= 4 {
		return nil, false
	}
	var l []api.Volume
	for range count {
		name := string([]byte{next(), next(), next(), next()})
		v := api.Volume{Name: strings.TrimRight(name, "\x00")}
		n := int(next())
		if n >= 5 {
			return nil, false
		}
		for k := range 4 {
			b := int(next())
			if k < n {
				v.Blocks = append(v.Blocks, b)
			} else if b != 0 {
				return nil, false
			}
		}
		l = append(l, v)
	}
	return l, mayBe(l) && strings.Trim(string(rest), "\x00") == ""
}

// alike tells whether the volumes are the same, one by one.
func alike(a, b []api.Volume) bool {
	return slices.EqualFunc(a, b, func(x, y api.Volume) bool { return x.Name == y.Name && slices.Equal(x.Blocks, y.Blocks) })
}

// clone is the volumes in memory of their own.
func clone(l []api.Volume) []api.Volume {
	var all []api.Volume
	for _, v := range l {
		all = append(all, volume(v.Name, slices.Clone(v.Blocks)...))
	}
	return all
}

// wantDecoded holds Decode of b against those volumes.
func wantDecoded(t *testing.T, b api.Block, want []api.Volume) {
	t.Helper()
	if got, e := table.Decode(b); e != api.OK || !alike(got, want) {
		t.Errorf("%x: %v, error %d, want %v", b, got, e, want)
	}
}

// wantNone holds Decode of b against that it is no table's.
func wantNone(t *testing.T, b api.Block, what string) {
	t.Helper()
	if got, e := table.Decode(b); e != api.ErrForm || len(got) != 0 {
		t.Errorf("%s: %x: %v, error %d", what, b, got, e)
	}
}

// wantMay holds Good and Encode against that the volumes may be, and their bytes against the words.
func wantMay(t *testing.T, l []api.Volume) {
	t.Helper()
	if !table.Good(l...) {
		t.Errorf("%v: not good", l)
	}
	b, e := table.Encode(l...)
	if e != api.OK || b != bytesOf(l) {
		t.Errorf("%v: %x, error %d, want %x", l, b, e, bytesOf(l))
	}
	wantDecoded(t, b, l)
}

// wantMayNot holds Good and Encode against that the volumes may not be.
func wantMayNot(t *testing.T, l []api.Volume) {
	t.Helper()
	if table.Good(l...) {
		t.Errorf("%v: good", l)
	}
	if b, e := table.Encode(l...); e != api.ErrForm || b != (api.Block{}) {
		t.Errorf("%v: %x, error %d", l, b, e)
	}
}

// someTables are volumes that may be: none, one, two, three, of short and long names, with few and all blocks, in any order.
func someTables() [][]api.Volume {
	return [][]api.Volume{
		nil,
		volumes(volume("a", 1)),
		volumes(volume("data", 11)),
		volumes(volume("data", 4, 3, 2, 1)),
		volumes(volume("z", 11, 1, 10, 2), volume("aa", 3)),
		volumes(volume("ab", 1, 2), volume("a", 4, 5, 6)),
		volumes(volume("log", 7, 8, 9), volume("data", 1, 2, 3, 4), volume("x", 11)),
		volumes(volume("wxyz", 1, 2, 3, 4), volume("zyxw", 5, 6, 7, 8), volume("aaaa", 9, 10, 11)),
		volumes(volume("c", 3), volume("b", 2), volume("a", 1)),
	}
}

// P12.1, P12.2: volumes that may be.
func TestMay(t *testing.T) {
	wantMay(t, []api.Volume{})
	for _, l := range someTables() {
		wantMay(t, l)
	}
}

// P12.2: known blocks, both ways.
func TestKnown(t *testing.T) {
	for _, x := range []struct {
		l []api.Volume
		b api.Block
	}{
		{nil, api.Block{}},
		{volumes(volume("a", 1)), api.Block{1, 'a', 0, 0, 0, 1, 1}},
		{volumes(volume("data", 2, 1)), api.Block{1, 'd', 'a', 't', 'a', 2, 2, 1}},
		{volumes(volume("ab", 11, 3, 7), volume("logs", 1, 2, 4, 5)), api.Block{2, 'a', 'b', 0, 0, 3, 11, 3, 7, 0, 'l', 'o', 'g', 's', 4, 1, 2, 4, 5}},
		{volumes(volume("x", 9), volume("yy", 8, 10), volume("zzz", 6, 5, 4, 3)), api.Block{3, 'x', 0, 0, 0, 1, 9, 0, 0, 0, 'y', 'y', 0, 0, 2, 8, 10, 0, 0, 'z', 'z', 'z', 0, 4, 6, 5, 4, 3}},
	} {
		if b, e := table.Encode(x.l...); e != api.OK || b != x.b {
			t.Errorf("%v: %x, error %d, want %x", x.l, b, e, x.b)
		}
		wantDecoded(t, x.b, x.l)
	}
}

// P12.1, P12.2: MaxVols volumes, and more.
func TestManyVolumes(t *testing.T) {
	three := volumes(volume("a", 1), volume("b", 2), volume("c", 3))
	wantMay(t, three)
	wantMayNot(t, append(three, volume("d", 4)))
	wantMayNot(t, append(three, volume("d", 4), volume("e", 5)))
	wantMayNot(t, append(three, api.Volume{}))
	wantMayNot(t, make([]api.Volume, 4))
	wantMayNot(t, make([]api.Volume, 256))
	wantMayNot(t, slices.Repeat(volumes(volume("a", 1)), 100000))
}

// P12.1, P12.2: names that are wrong, each at each place.
func TestWrongNames(t *testing.T) {
	for _, name := range []string{"", "abcde", "datadata", "Data", "a b", " a", "a\x00", "\x00", "\x00a", "a1", "é", "\xff", "a-", "{", "`"} {
		for n := 1; n <= 3; n++ {
			for i := range n {
				l := clone(someTables()[6][:n])
				l[i].Name = name
				wantMayNot(t, l)
			}
		}
	}
}

// P12.1, P12.2: no two names may be alike, wherever the two stand.
func TestNamesAlike(t *testing.T) {
	wantMayNot(t, volumes(volume("a", 1), volume("a", 2)))
	wantMayNot(t, volumes(volume("data", 1), volume("data", 2)))
	for i := range 3 {
		for j := range i {
			l := volumes(volume("a", 1), volume("b", 2), volume("c", 3))
			l[i].Name = l[j].Name
			wantMayNot(t, l)
		}
	}
	wantMayNot(t, volumes(volume("a", 1), volume("a", 2), volume("a", 3)))
	wantMay(t, volumes(volume("a", 1), volume("aa", 2), volume("aaa", 3)))
}

// P12.1, P12.2: 1 to MaxLen blocks, in each of the volumes.
func TestLengths(t *testing.T) {
	wantMayNot(t, volumes(volume("a")))
	wantMayNot(t, volumes(api.Volume{Name: "a", Blocks: []int{}}))
	for n := range 12 {
		blocks := []int{1, 2, 3, 4, 5, 6, 7, 8, 9, 10, 11}[:n]
		if n >= 1 && n <= 4 {
			wantMay(t, volumes(volume("a", blocks...)))
		} else {
			wantMayNot(t, volumes(volume("a", blocks...)))
		}
	}
	for n := range 7 {
		blocks := []int{3, 4, 5, 6, 7, 8}[:n]
		for i := range 3 {
			l := volumes(volume("a", 1), volume("b", 2), volume("c", 11))
			l[i].Blocks = blocks
			if n >= 1 && n <= 4 {
				wantMay(t, l)
			} else {
				wantMayNot(t, l)
			}
		}
	}
	wantMayNot(t, volumes(volume("a", slices.Repeat([]int{1}, 100000)...)))
	// As many blocks as may be in all, but one volume without any, or with too many.
	wantMayNot(t, volumes(volume("a", 1, 2, 3, 4, 5), volume("b", 6), volume("c", 7)))
	wantMayNot(t, volumes(volume("a", 1, 2), volume("b"), volume("c", 7)))
}

// P12.1, P12.2: each block is from 1 to Blocks - 1, at each place.
func TestBlocks(t *testing.T) {
	for b := -300; b < 300; b++ {
		if b >= 1 && b <= 11 {
			wantMay(t, volumes(volume("a", b)))
		} else {
			wantMayNot(t, volumes(volume("a", b)))
		}
	}
	for _, b := range []int{-1, 0, 12, 13, 16, 17, 32, 64, 256, 257, -255, 1<<16 + 1, 1<<32 + 1, 1 - 1<<32, math.MaxInt, math.MinInt, math.MinInt + 1} {
		wantMayNot(t, volumes(volume("a", b)))
		for i := range 4 {
			blocks := []int{5, 6, 7, 8}
			blocks[i] = b
			wantMayNot(t, volumes(volume("a", blocks...)))
			wantMayNot(t, volumes(volume("a", 1), volume("b", 2), volume("c", blocks...)))
			wantMayNot(t, volumes(volume("c", blocks...), volume("a", 1)))
		}
	}
}

// P12.1, P12.2: no block twice, in a volume or in two, wherever it stands.
func TestBlocksTwice(t *testing.T) {
	type place struct{ volume, at int }
	var places []place
	for i := range 3 {
		for k := range 3 {
			places = append(places, place{i, k})
		}
	}
	for _, p := range places {
		for _, q := range places {
			l := volumes(volume("a", 1, 2, 3), volume("b", 11, 10, 9), volume("c", 5, 4, 6))
			l[p.volume].Blocks[p.at] = l[q.volume].Blocks[q.at]
			if p == q {
				wantMay(t, l)
			} else {
				wantMayNot(t, l)
			}
		}
	}
	wantMayNot(t, volumes(volume("a", 1, 1)))
	wantMayNot(t, volumes(volume("a", 11, 11, 11, 11)))
	wantMayNot(t, volumes(volume("a", 7), volume("b", 7)))
	// Once twice, once none: as many different ones as there are places, with one that may not be.
	wantMayNot(t, volumes(volume("a", 1, 0), volume("b", 2)))
	wantMayNot(t, volumes(volume("a", 1, 1), volume("b", 12)))
}

// P12.1, P12.2, P12.3: volumes by lot, held against what the words say, told by counting.
func TestByLot(t *testing.T) {
	lot := rand.New(rand.NewSource(12))
	seen := map[bool]int{}
	for range 40000 {
		blocks := lot.Perm(12)
		l := make([]api.Volume, lot.Intn(4))
		for i := range l {
			n := lot.Intn(4) + 1
			if lot.Intn(30) == 0 {
				n = lot.Intn(6)
			}
			n = min(n, len(blocks))
			l[i] = volume(string(rune('a'+lot.Intn(9))), blocks[:n]...)
			blocks = blocks[n:]
			if lot.Intn(20) == 0 && len(l[i].Blocks) > 0 {
				l[i].Blocks[0] = lot.Intn(14) - 1
			}
		}
		want := mayBe(l)
		seen[want]++
		if want {
			wantMay(t, l)
		} else {
			wantMayNot(t, l)
		}
	}
	if seen[true] < 1000 || seen[false] < 1000 {
		t.Error(seen)
	}
}

// P12.1: the first volume of that name; the names and blocks need not be such as may be.
func TestFind(t *testing.T) {
	l := volumes(volume("a", 1), volume("data", 2), volume("a", 3), volume("DATA"), volume(""), volume("data"), volume("datas"), volume(""))
	for name, want := range map[string]int{"a": 0, "data": 1, "DATA": 3, "": 4, "datas": 6, "b": -1, "dat": -1, "A": -1, "aa": -1, "a\x00": -1, "\x00": -1, "datasx": -1} {
		if got := table.Find(name, l...); got != want {
			t.Errorf("%q: %d, want %d", name, got, want)
		}
	}
	for i, v := range someTables()[7] {
		if got := table.Find(v.Name, someTables()[7]...); got != i {
			t.Errorf("%q: %d, want %d", v.Name, got, i)
		}
	}
	for _, name := range []string{"", "a", "\x00"} {
		if table.Find(name) != -1 || table.Find(name, []api.Volume{}...) != -1 || table.Find(name, volume("b", 1)) != -1 {
			t.Errorf("%q is found where it is not", name)
		}
	}
	long := append(slices.Repeat(volumes(volume("b", 1)), 300), volume("c", 1))
	if got := table.Find("c", long...); got != 300 {
		t.Errorf("the last one: %d", got)
	}
}

// P12.2: known blocks that are no table's.
func TestKnownNone(t *testing.T) {
	for what, b := range map[string]api.Block{
		"a count without volumes":          {1},
		"two counted, one there":           {2, 'a', 0, 0, 0, 1, 1},
		"none counted, one there":          {0, 'a', 0, 0, 0, 1, 1},
		"one counted, two there":           {1, 'a', 0, 0, 0, 1, 1, 0, 0, 0, 'b', 0, 0, 0, 1, 2},
		"four volumes":                     {4, 'a', 0, 0, 0, 1, 1, 0, 0, 0, 'b', 0, 0, 0, 1, 2, 0, 0, 0, 'c', 0, 0, 0, 1, 3, 0, 0, 0, 'd', 0, 0, 0},
		"255 volumes":                      {255, 'a', 0, 0, 0, 1, 1},
		"no name":                          {1, 0, 0, 0, 0, 1, 1},
		"a wrong name":                     {1, 'A', 0, 0, 0, 1, 1},
		"a hole in a name":                 {1, 'a', 0, 'b', 0, 1, 1},
		"a zero ahead of a name":           {1, 0, 'a', 0, 0, 1, 1},
		"a byte behind a short name":       {1, 'a', 0, 0, 1, 1, 1},
		"no blocks":                        {1, 'a', 0, 0, 0, 0},
		"no blocks counted":                {1, 'a', 0, 0, 0, 0, 1},
		"five blocks counted":              {1, 'a', 0, 0, 0, 5, 1, 2, 3, 4},
		"five blocks":                      {1, 'a', 0, 0, 0, 5, 1, 2, 3, 4, 5},
		"255 blocks":                       {1, 'a', 0, 0, 0, 255, 1, 2, 3, 4},
		"four blocks counted, three there": {1, 'a', 0, 0, 0, 4, 1, 2, 3},
		"a block behind what is counted":   {1, 'a', 0, 0, 0, 1, 1, 2},
		"and at the last place":            {1, 'a', 0, 0, 0, 1, 1, 0, 0, 2},
		"block 0":                          {1, 'a', 0, 0, 0, 2, 1, 0},
		"block 12":                         {1, 'a', 0, 0, 0, 1, 12},
		"block 255":                        {1, 'a', 0, 0, 0, 1, 255},
		"a block twice":                    {1, 'a', 0, 0, 0, 2, 1, 1},
		"a block in two volumes":           {2, 'a', 0, 0, 0, 1, 1, 0, 0, 0, 'b', 0, 0, 0, 1, 1},
		"two names alike":                  {2, 'a', 0, 0, 0, 1, 1, 0, 0, 0, 'a', 0, 0, 0, 1, 2},
		"a byte behind all":                {31: 1},
		"a byte behind all volumes":        {3, 'x', 0, 0, 0, 1, 9, 0, 0, 0, 'y', 'y', 0, 0, 2, 8, 10, 0, 0, 'z', 'z', 'z', 0, 4, 6, 5, 4, 3, 1},
	} {
		wantNone(t, b, what)
	}
}

// P12.2: each byte of a table turned into each other value: the volumes whose block it is then, or none's.
func TestDecodeEachByte(t *testing.T) {
	for _, l := range someTables() {
		ahead := bytesOf(l)
		found := 0
		for i := range ahead {
			for c := range 256 {
				b := ahead
				b[i] = byte(c)
				want, ok := readByWords(b)
				if !ok {
					wantNone(t, b, "turned")
					continue
				}
				found++
				wantDecoded(t, b, want)
				if again, e := table.Encode(want...); e != api.OK || again != b {
					t.Errorf("%v: %x, error %d, want %x", want, again, e, b)
				}
			}
		}
		if found < 32 {
			t.Error("found:", found)
		}
	}
}

// P12.2: blocks of any bytes: what Decode takes is what Encode tells again.
func TestDecodeByLot(t *testing.T) {
	lot := rand.New(rand.NewSource(120))
	found := 0
	for range 200000 {
		var b api.Block
		count := lot.Intn(3)
		b[0] = byte(count)
		for i := range count {
			part := b[1+9*i:]
			copy(part, []byte{'a', 'b', 'c', 'd'}[:lot.Intn(4)+1])
			part[0] += byte(lot.Intn(3))
			n := lot.Intn(4) + 1
			part[4] = byte(n)
			for k := range n {
				part[5+k] = byte(lot.Intn(12))
			}
		}
		for range lot.Intn(2) {
			b[lot.Intn(32)] = byte(lot.Intn(14))
		}
		want, ok := readByWords(b)
		if ok {
			found++
			wantDecoded(t, b, want)
		} else {
			wantNone(t, b, "by lot")
		}
	}
	if found < 1000 {
		t.Error("found:", found)
	}
}

// P12.3: each choice of names' lengths and blocks' numbers of up to three volumes goes there and back.
func TestThereAndBack(t *testing.T) {
	for shape := range 16 * 16 * 16 {
		var l []api.Volume
		next := 11
		for i := range 3 {
			part := shape >> (4 * i) & 15
			var blocks []int
			for range part%4 + 1 {
				blocks = append(blocks, next)
				next--
			}
			l = append(l, volume(strings.Repeat(string(rune('a'+i)), part/4+1), blocks...))
		}
		if next < 0 {
			wantMayNot(t, l)
			l = l[:2]
		}
		wantMay(t, l)
	}
}

// Rule 2: nothing that is handed in is changed, its spare room included, and none of that room is looked at.
func TestChangesNothing(t *testing.T) {
	blocks := []int{3, 1, 99, 7, 98}
	room := volumes(volume("a", blocks[:2]...), volume("b", blocks[3:4]...), volume("c", 1), volume("b", 1), volume("d", 1))
	for range 2 {
		wantMay(t, room[:2])
		wantMayNot(t, room[:3])
		wantMayNot(t, room[1:4])
		if table.Find("c", room[:2]...) != -1 || table.Find("b", room[:2]...) != 1 {
			t.Error("Find")
		}
	}
	if !slices.Equal(blocks, []int{3, 1, 99, 7, 98}) || !alike(room, volumes(volume("a", 3, 1), volume("b", 7), volume("c", 1), volume("b", 1), volume("d", 1))) {
		t.Errorf("%v, %v", blocks, room)
	}
}

// Rule 2: what Decode tells is new memory, and no two lists of it share any, their spare room neither.
func TestDecodedIsNew(t *testing.T) {
	want := someTables()[6]
	b := bytesOf(want)
	for i := range 3 {
		first, _ := table.Decode(b)
		second, _ := table.Decode(b)
		all := first[i].Blocks[:cap(first[i].Blocks)]
		for k := range all {
			all[k] = 99
		}
		for j := range first {
			if j != i && !slices.Equal(first[j].Blocks, want[j].Blocks) {
				t.Errorf("volume %d: %v", j, first[j])
			}
		}
		first = first[:cap(first)]
		for j := range first {
			first[j] = api.Volume{Name: "gone"}
		}
		if !alike(second, want) {
			t.Errorf("%v", second)
		}
		wantDecoded(t, b, want)
	}
}
