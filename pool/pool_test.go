package pool_test

import (
	"math"
	"math/rand"
	"slices"
	"testing"

	"tollhouse/api"
	"tollhouse/pool"
)

// of is a volume of those blocks.
func of(blocks ...int) api.Volume {
	return api.Volume{Name: "data", Blocks: blocks}
}

// bitsOf are the bits of those blocks, told by powers.
func bitsOf(blocks ...int) uint16 {
	var all uint16
	for _, b := range blocks {
		power := uint16(1)
		for range b {
			power *= 2
		}
		all |= power
	}
	return all
}

// usedBySearch are the blocks from 0 to 11 that are 0, or of a volume, told by looking for each.
func usedBySearch(l ...api.Volume) []int {
	var used []int
	for b := range 12 {
		if b == 0 || slices.ContainsFunc(l, func(v api.Volume) bool { return slices.Contains(v.Blocks, b) }) {
			used = append(used, b)
		}
	}
	return used
}

// firstFree are the n least blocks that are not used, or none if there are not so many.
func firstFree(n int, used []int) []int {
	var free []int
	for b := range 12 {
		if !slices.Contains(used, b) {
			free = append(free, b)
		}
	}
	if n > len(free) {
		return nil
	}
	return free[:n]
}

// wantUsed holds Used and Free against those blocks.
func wantUsed(t *testing.T, l []api.Volume, blocks ...int) {
	t.Helper()
	if got := pool.Used(l...); got != bitsOf(blocks...) {
		t.Errorf("%v: used %012b, want %012b", l, got, bitsOf(blocks...))
	}
	if got := pool.Free(l...); got != 12-len(blocks) {
		t.Errorf("%v: free %d, want %d", l, got, 12-len(blocks))
	}
}

// wantTaken holds Take against those blocks.
func wantTaken(t *testing.T, n int, l []api.Volume, want ...int) {
	t.Helper()
	if got, e := pool.Take(n, l...); e != api.OK || !slices.Equal(got, want) {
		t.Errorf("%d of %v: %v, error %d, want %v", n, l, got, e, want)
	}
}

// wantNoneTaken holds Take against that error, and nothing else.
func wantNoneTaken(t *testing.T, n int, l []api.Volume, want api.Errno) {
	t.Helper()
	if got, e := pool.Take(n, l...); e != want || len(got) != 0 {
		t.Errorf("%d of %v: %v, error %d, want error %d", n, l, got, e, want)
	}
}

// volumes is a list of them.
func volumes(l ...api.Volume) []api.Volume { return l }

// P11.1: no volumes, one, several; blocks at the edges of what there is, and beyond; blocks that come twice.
func TestUsed(t *testing.T) {
	wantUsed(t, nil, 0)
	wantUsed(t, volumes(), 0)
	wantUsed(t, volumes(of()), 0)
	wantUsed(t, volumes(of(), of(), of()), 0)
	wantUsed(t, volumes(of(1)), 0, 1)
	wantUsed(t, volumes(of(0)), 0)
	wantUsed(t, volumes(of(11)), 0, 11)
	wantUsed(t, volumes(of(12)), 0)
	wantUsed(t, volumes(of(13)), 0)
	wantUsed(t, volumes(of(-1)), 0)
	wantUsed(t, volumes(of(-1, 0, 11, 12)), 0, 11)
	wantUsed(t, volumes(of(12, 11, 0, -1)), 0, 11)
	wantUsed(t, volumes(of(12, 3, -1, 5)), 0, 3, 5)
	wantUsed(t, volumes(of(1, 2), of(7), of(4, 10, 11)), 0, 1, 2, 4, 7, 10, 11)
	wantUsed(t, volumes(of(4, 10, 11), of(7), of(2, 1)), 0, 1, 2, 4, 7, 10, 11)
	wantUsed(t, volumes(of(1, 2, 3, 4), of(5, 6, 7, 8), of(9, 10, 11)), 0, 1, 2, 3, 4, 5, 6, 7, 8, 9, 10, 11)
	wantUsed(t, volumes(of(1, 2, 3, 4, 5, 6, 7, 8, 9, 10)), 0, 1, 2, 3, 4, 5, 6, 7, 8, 9, 10)
	wantUsed(t, volumes(of(5, 5)), 0, 5)
	wantUsed(t, volumes(of(5, 6, 5)), 0, 5, 6)
	wantUsed(t, volumes(of(5, 6), of(6, 7)), 0, 5, 6, 7)
	wantUsed(t, volumes(of(5), of(5), of(5)), 0, 5)
	wantUsed(t, volumes(of(0, 0), of(0)), 0)
}

// P11.1: numbers far beyond the blocks are none of them, whichever bit they would be.
func TestUsedFarBeyond(t *testing.T) {
	for _, far := range []int{16, 17, 27, 31, 32, 33, 63, 64, 65, 256, 257, 1 << 16, 1<<16 + 3, 1 << 32, 1<<32 + 3, 1<<62 + 3, math.MaxInt, math.MinInt, math.MinInt + 3, -11, -12, -13, -16, -64, 3 - 256, 3 - 1<<16, 3 - 1<<32} {
		wantUsed(t, volumes(of(far)), 0)
		wantUsed(t, volumes(of(2, far, 9), of(far)), 0, 2, 9)
	}
	for b := -70; b < 70; b++ {
		wantUsed(t, volumes(of(b)), usedBySearch(of(b))...)
	}
}

// P11.1: a volume's name is nothing to Used, nor how many volumes or blocks there are.
func TestUsedOfAnyVolumes(t *testing.T) {
	wantUsed(t, volumes(api.Volume{Blocks: []int{4}}, api.Volume{Name: "NOT RIGHT", Blocks: []int{6}}, api.Volume{Name: "data"}), 0, 4, 6)
	wantUsed(t, volumes(of(1), of(2), of(3), of(4), of(5), of(6)), 0, 1, 2, 3, 4, 5, 6)
	wantUsed(t, slices.Repeat(volumes(of(3, 9)), 10000), 0, 3, 9)
	wantUsed(t, volumes(of(slices.Repeat([]int{3, 9, 99}, 10000)...)), 0, 3, 9)
}

// P11.1: the chapter's example, and how many may be taken.
func TestTake(t *testing.T) {
	wantTaken(t, 1, nil, 1)
	wantTaken(t, 2, nil, 1, 2)
	wantTaken(t, 3, nil, 1, 2, 3)
	wantTaken(t, 4, nil, 1, 2, 3, 4)
	wantTaken(t, 4, volumes(of(1, 2, 3, 4)), 5, 6, 7, 8)
	wantTaken(t, 4, volumes(of(2), of(4, 5), of(7)), 1, 3, 6, 8)
	wantTaken(t, 3, volumes(of(7), of(5, 4), of(2)), 1, 3, 6)
	wantTaken(t, 2, volumes(of(10, 9, 8, 7, 6, 5, 4, 3, 2)), 1, 11)
	wantTaken(t, 1, volumes(of(1, 2, 3, 4, 5, 6, 7, 8, 9, 10)), 11)
	wantTaken(t, 1, volumes(of(11, 2, 3, 4, 5, 6, 7, 8, 9, 10)), 1)
	wantTaken(t, 2, volumes(of(0, 12, -1, 3)), 1, 2)
	wantTaken(t, 3, volumes(of(1, 1), of(1)), 2, 3, 4)
}

// P11.1: another number than 1 to MaxLen is ErrArg, whatever is free.
func TestTakeWrongNumber(t *testing.T) {
	for _, n := range []int{0, -1, -2, -4, 5, 6, 11, 12, 13, 256 + 1, 1<<32 + 1, 1 - 1<<32, math.MaxInt, math.MinInt} {
		wantNoneTaken(t, n, nil, api.ErrArg)
		wantNoneTaken(t, n, volumes(of(3)), api.ErrArg)
		wantNoneTaken(t, n, volumes(of(1, 2, 3, 4, 5, 6, 7, 8, 9)), api.ErrArg)
		wantNoneTaken(t, n, volumes(of(1, 2, 3, 4), of(5, 6, 7, 8), of(9, 10, 11)), api.ErrArg)
	}
}

// P11.1: as many as are free, and one more.
func TestTakeTooMany(t *testing.T) {
	all := []int{1, 2, 3, 4, 5, 6, 7, 8, 9, 10, 11}
	for free := range 5 {
		for _, l := range [][]api.Volume{
			volumes(of(all[:11-free]...)),
			volumes(of(all[free:]...)),
			volumes(of(all[:4]...), of(all[4:11-free]...)),
		} {
			for n := 1; n <= 4; n++ {
				if n > free {
					wantNoneTaken(t, n, l, api.ErrQuota)
					continue
				}
				wantTaken(t, n, l, firstFree(n, usedBySearch(l...))...)
			}
		}
	}
}

// P11.1, P11.2: each choice of blocks that are used, held against a search: what is taken is free, the least ones, rising.
func TestTakeEach(t *testing.T) {
	for choice := range 1 << 12 {
		var l [3]api.Volume
		for b := range 12 {
			if choice>>b&1 == 1 {
				l[b%3].Blocks = append(l[b%3].Blocks, b)
			}
		}
		used := usedBySearch(l[:]...)
		wantUsed(t, l[:], used...)
		for n := 1; n <= 4; n++ {
			want := firstFree(n, used)
			if want == nil {
				wantNoneTaken(t, n, l[:], api.ErrQuota)
				continue
			}
			wantTaken(t, n, l[:], want...)
		}
	}
}

// P11.2: what is taken is a block that there is, rising, and of no volume, whatever the volumes are.
func TestTakenIsOfNoVolume(t *testing.T) {
	lot := rand.New(rand.NewSource(11))
	seen := map[api.Errno]int{}
	for range 20000 {
		l := make([]api.Volume, lot.Intn(9))
		for i := range l {
			for range lot.Intn(5) {
				l[i].Blocks = append(l[i].Blocks, lot.Intn(15)-1)
			}
		}
		n := lot.Intn(6)
		taken, e := pool.Take(n, l...)
		seen[e]++
		if e != api.OK {
			continue
		}
		if len(taken) != n || !slices.IsSorted(taken) || len(slices.Compact(slices.Clone(taken))) != n {
			t.Errorf("%d of %v: %v", n, l, taken)
		}
		for _, b := range taken {
			if b < 1 || b > 11 || slices.Contains(usedBySearch(l...), b) {
				t.Errorf("%d of %v: %v", n, l, taken)
			}
		}
	}
	if seen[api.OK] < 1000 || seen[api.ErrArg] < 1000 || seen[api.ErrQuota] < 100 {
		t.Error(seen)
	}
}

// P11.2: taking again and again, each as a volume of its own, gives out each block once.
func TestTakeAgainAndAgain(t *testing.T) {
	for n := 1; n <= 4; n++ {
		var l []api.Volume
		var all []int
		for pool.Free(l...) >= n {
			taken, e := pool.Take(n, l...)
			if e != api.OK || len(taken) != n {
				t.Fatalf("%d of %v: error %d", n, l, e)
			}
			l = append(l, of(taken...))
			all = append(all, taken...)
		}
		want := []int{1, 2, 3, 4, 5, 6, 7, 8, 9, 10, 11}[:11/n*n]
		if !slices.Equal(all, want) {
			t.Errorf("by %d: %v", n, all)
		}
		wantNoneTaken(t, n, l, api.ErrQuota)
	}
}

// Rule 2: nothing that is handed in is changed, its spare room included, and none of that room is looked at.
func TestChangesNothing(t *testing.T) {
	blocks := []int{3, 1, 99, 7}
	room := volumes(of(blocks[:2]...), api.Volume{Blocks: blocks[3:]}, of(8), of(9))
	for range 2 {
		wantUsed(t, room[:2], 0, 1, 3, 7)
		wantTaken(t, 4, room[:2], 2, 4, 5, 6)
		wantNoneTaken(t, 5, room[:2], api.ErrArg)
	}
	if !slices.Equal(blocks, []int{3, 1, 99, 7}) || !slices.Equal(room[0].Blocks, []int{3, 1}) || !slices.Equal(room[1].Blocks, []int{7}) || !slices.Equal(room[2].Blocks, []int{8}) || !slices.Equal(room[3].Blocks, []int{9}) {
		t.Errorf("%v, %v", blocks, room)
	}
}

// Rule 2: what Take tells is new memory, its spare room too.
func TestTakenIsNew(t *testing.T) {
	l := volumes(of(1, 2, 3))
	first, _ := pool.Take(3, l...)
	second, _ := pool.Take(3, l...)
	first = first[:cap(first)]
	for i := range first {
		first[i] = 99
	}
	if !slices.Equal(second, []int{4, 5, 6}) || !slices.Equal(l[0].Blocks, []int{1, 2, 3}) {
		t.Errorf("%v, %v", second, l)
	}
	wantTaken(t, 3, l, 4, 5, 6)
}
