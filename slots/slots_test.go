package slots_test

import (
	"math"
	"math/rand"
	"slices"
	"testing"

	"tollhouse/api"
	"tollhouse/slots"
)

// last is the greatest tick.
const last = math.MaxUint32

// ticks are rows of them: the first ones, some in between, and round the greatest one.
func ticks() []uint32 {
	var all []uint32
	for _, middle := range []uint32{10, 255, 65536, 1 << 24, 1<<31 - 1, 1 << 31, last - 10} {
		for d := range uint32(21) {
			all = append(all, middle-10+d)
		}
	}
	return append(all, last-1, last, 0, 1)
}

// P19.1: known owners, and each row of ticks by its remainder.
func TestOwner(t *testing.T) {
	for tick, want := range map[uint32]int{0: 0, 1: 1, 2: 2, 3: 3, 4: 0, 5: 1, 6: 2, 7: 3, 8: 0, last: 3, last - 1: 2, last - 2: 1, last - 3: 0, last - 4: 3, 1 << 31: 0, 1<<31 + 1: 1, 1<<31 - 1: 3, 1<<16 + 2: 2} {
		if got := slots.Owner(tick); got != want {
			t.Errorf("%d: %d, want %d", tick, got, want)
		}
	}
	for _, tick := range ticks() {
		want := int(tick - tick/4*4)
		if got := slots.Owner(tick); got != want {
			t.Errorf("%d: %d, want %d", tick, got, want)
		}
	}
}

// P19.1: the chapter's example, and others that are known, round the greatest tick too.
func TestNextKnown(t *testing.T) {
	for _, x := range []struct {
		place      int
		tick, want uint32
	}{
		{1, 1, 5}, {0, 0, 4}, {1, 0, 1}, {2, 0, 2}, {3, 0, 3}, {0, 1, 4}, {0, 3, 4}, {0, 4, 8}, {2, 1, 2}, {3, 3, 7}, {3, 2, 3},
		{0, last, 0}, {1, last, 1}, {2, last, 2}, {3, last, 3},
		{0, last - 1, 0}, {1, last - 1, 1}, {2, last - 1, 2}, {3, last - 1, last},
		{0, last - 3, 0}, {1, last - 3, last - 2}, {0, last - 4, last - 3}, {3, last - 4, last},
		{0, 1<<31 - 1, 1 << 31}, {3, 1 << 31, 1<<31 + 3},
	} {
		if got, e := slots.Next(x.place, x.tick); e != api.OK || got != x.want {
			t.Errorf("%d, %d: %d, error %d, want %d", x.place, x.tick, got, e, x.want)
		}
	}
}

// P19.1: for each place, from each of many ticks: its own, above that, and no other of its own between.
func TestNext(t *testing.T) {
	for place := range 4 {
		for _, tick := range ticks() {
			want := tick + 1
			for want%4 != uint32(place) {
				want++
			}
			got, e := slots.Next(place, tick)
			if e != api.OK || got != want || got-tick < 1 || got-tick > 4 {
				t.Errorf("%d, %d: %d, error %d, want %d", place, tick, got, e, want)
			}
		}
	}
}

// wrongPlaces are such as there aren't.
func wrongPlaces() []int {
	return []int{-1, -2, -3, -4, -5, 4, 5, 7, 8, 255, 256, -256, 1 << 16, 1 << 32, 1<<32 + 1, -1 << 32, math.MaxInt, math.MinInt}
}

// P19.1: of a place that there isn't there is no next tick, and none is counted.
func TestWrongPlaces(t *testing.T) {
	for _, place := range wrongPlaces() {
		for _, tick := range ticks() {
			if got, e := slots.Next(place, tick); e != api.ErrArg || got != 0 {
				t.Errorf("%d, %d: %d, error %d", place, tick, got, e)
			}
			for _, to := range []uint32{0, tick, tick + 1, tick + 9, last} {
				if got := slots.Count(place, tick, to); got != 0 {
					t.Errorf("%d, %d to %d: %d", place, tick, to, got)
				}
			}
		}
	}
}

// counted are the ticks above from, up to to, of that place, told one by one.
func counted(place int, from, to uint32) int {
	n := 0
	for tick := uint64(from) + 1; tick <= uint64(to); tick++ {
		if tick%4 == uint64(place) {
			n++
		}
	}
	return n
}

// P19.1: to below from, like it, above it by up to five rounds, for each place, at each of many ticks.
func TestCount(t *testing.T) {
	for place := range 4 {
		for _, from := range ticks() {
			for d := int64(-20); d < 20; d++ {
				to := int64(from) + d
				if to < 0 || to > last {
					continue
				}
				if got, want := slots.Count(place, from, uint32(to)), counted(place, from, uint32(to)); got != want {
					t.Errorf("%d, %d to %d: %d, want %d", place, from, to, got, want)
				}
			}
		}
	}
}

// P19.1: known counts: none, one, a whole round, far above, up to the greatest tick.
func TestCountKnown(t *testing.T) {
	for _, x := range []struct {
		place    int
		from, to uint32
		want     int
	}{
		{0, 0, 0, 0}, {0, 0, 1, 0}, {1, 0, 1, 1}, {1, 1, 1, 0}, {1, 1, 0, 0}, {1, 1, 4, 0}, {1, 1, 5, 1},
		{0, 0, 3, 0}, {0, 0, 4, 1}, {3, 0, 3, 1}, {3, 3, 6, 0}, {3, 3, 7, 1}, {2, 0, 4, 1}, {2, 0, 1000, 250}, {0, 0, 1000, 250}, {0, 1, 1000, 250}, {0, 0, 999, 249},
		{0, 9, 3, 0}, {2, 9, 3, 0}, {3, last, 0, 0}, {0, last, 0, 0}, {0, last, last, 0}, {3, last - 1, last, 1}, {0, last - 1, last, 0}, {1, last, last - 1, 0},
		{0, 0, last, 1<<30 - 1}, {1, 0, last, 1 << 30}, {2, 0, last, 1 << 30}, {3, 0, last, 1 << 30}, {3, 3, last, 1<<30 - 1},
		{0, 1 << 31, last, 1<<29 - 1}, {1, 1 << 31, last, 1 << 29}, {0, 0, 1 << 31, 1 << 29}, {3, 0, 1 << 31, 1 << 29},
	} {
		if got := slots.Count(x.place, x.from, x.to); got != x.want {
			t.Errorf("%d, %d to %d: %d, want %d", x.place, x.from, x.to, got, x.want)
		}
	}
}

// P19.1: what is counted up to one tick, and from that one on, is what is counted in all; and all places' are all ticks.
func TestCountParts(t *testing.T) {
	lot := rand.New(rand.NewSource(19))
	for range 20000 {
		x := []uint32{lot.Uint32(), lot.Uint32(), lot.Uint32()}
		slices.Sort(x)
		all := 0
		for place := range 4 {
			whole := slots.Count(place, x[0], x[2])
			if whole != slots.Count(place, x[0], x[1])+slots.Count(place, x[1], x[2]) {
				t.Errorf("%d, %v: %d", place, x, whole)
			}
			all += whole
		}
		if all != int(x[2]-x[0]) {
			t.Errorf("%v: %d", x, all)
		}
	}
}

// P19.1: each Next is one more that is counted.
func TestCountOfNext(t *testing.T) {
	for place := range 4 {
		tick := uint32(0)
		for n := range 1000 {
			if got := slots.Count(place, 0, tick); got != n {
				t.Errorf("%d, %d: %d, want %d", place, tick, got, n)
			}
			tick, _ = slots.Next(place, tick)
			if got := slots.Count(place, 0, tick-1); got != n {
				t.Errorf("%d, %d: %d, want %d", place, tick-1, got, n)
			}
		}
	}
}

// P19.2: the bound of each k that has one, and 0 of others.
func TestBound(t *testing.T) {
	for k, want := range map[int]int{1: 112, 2: 192, 3: 272, 10: 832, 100: 8032, 999: 79952, 1000: 80032, 0: 0, -1: 0, -2: 0, 1001: 0, 1002: 0, 2000: 0, -1000: 0, 1 << 16: 0, 1 << 32: 0, 1<<32 + 1: 0, -1 << 32: 0, math.MaxInt: 0, math.MinInt: 0} {
		if got := slots.Bound(k); got != want {
			t.Errorf("%d: %d, want %d", k, got, want)
		}
	}
	for k := 1; k <= 1000; k++ {
		if got := slots.Bound(k); got != 80*k+32 {
			t.Errorf("%d: %d, want %d", k, got, 80*k+32)
		}
	}
}

// P19.3: in any four ticks one behind the other each place has one, round the greatest tick, too.
func TestEachPlaceHasOne(t *testing.T) {
	for _, first := range ticks() {
		var owners []int
		for d := range uint32(4) {
			owners = append(owners, slots.Owner(first+d))
		}
		slices.Sort(owners)
		if !slices.Equal(owners, []int{0, 1, 2, 3}) {
			t.Errorf("from %d: %v", first, owners)
		}
		for place := range 4 {
			if next, e := slots.Next(place, first); e != api.OK || slots.Owner(next) != place {
				t.Errorf("%d, %d: %d, error %d", place, first, next, e)
			}
			if first <= last-4 && slots.Count(place, first, first+4) != 1 {
				t.Errorf("%d from %d: %d", place, first, slots.Count(place, first, first+4))
			}
		}
	}
}
