package fates_test

import (
	"math"
	"math/rand"
	"slices"
	"testing"

	"tollhouse/api"
	"tollhouse/fates"
)

// byWords is each number's fate, one by one.
func byWords() [16]fates.Fate {
	return [16]fates.Fate{
		0:  {},
		1:  {Lost: true},
		2:  {Twice: true},
		3:  {Lost: true, Twice: true},
		4:  {Deaf: true},
		5:  {Lost: true, Deaf: true},
		6:  {Twice: true, Deaf: true},
		7:  {Lost: true, Twice: true, Deaf: true},
		8:  {Late: true},
		9:  {Lost: true, Late: true},
		10: {Twice: true, Late: true},
		11: {Lost: true, Twice: true, Late: true},
		12: {Deaf: true, Late: true},
		13: {Lost: true, Deaf: true, Late: true},
		14: {Twice: true, Deaf: true, Late: true},
		15: {Lost: true, Twice: true, Deaf: true, Late: true},
	}
}

// wantAll holds what waits against those numbers.
func wantAll(t *testing.T, f *fates.Fates, want ...int) {
	t.Helper()
	if got := f.All(); !slices.Equal(got, want) {
		t.Errorf("%v, want %v", got, want)
	}
}

// wantAdded adds those numbers.
func wantAdded(t *testing.T, f *fates.Fates, l ...int) {
	t.Helper()
	if e := f.Add(l...); e != api.OK {
		t.Errorf("%v: error %d", l, e)
	}
}

// wantNotAdded holds Add against that error, and that all is as it was.
func wantNotAdded(t *testing.T, f *fates.Fates, e api.Errno, l ...int) {
	t.Helper()
	ahead := f.All()
	if got := f.Add(l...); got != e {
		t.Errorf("%v: error %d, want %d", l, got, e)
	}
	wantAll(t, f, ahead...)
}

// wantTaken holds the next ones against those numbers' fates.
func wantTaken(t *testing.T, f *fates.Fates, want ...int) {
	t.Helper()
	for _, n := range want {
		if got := f.Take(); got != byWords()[n] {
			t.Errorf("%v, want that of %d", got, n)
		}
	}
}

// P20.1: each number's fate, modulo 16; below 0 none.
func TestOf(t *testing.T) {
	for n := -40; n < 200; n++ {
		want := fates.Fate{}
		if n >= 0 {
			want = byWords()[n%16]
		}
		if got := fates.Of(n); got != want {
			t.Errorf("%d: %v, want %v", n, got, want)
		}
	}
	for n, of := range map[int]int{255: 15, 256: 0, 257: 1, 1<<16 + 5: 5, 1 << 31: 0, 1<<31 + 3: 3, 1<<32 + 9: 9, math.MaxInt: 15, math.MaxInt - 1: 14} {
		if got := fates.Of(n); got != byWords()[of] {
			t.Errorf("%d: %v, want that of %d", n, got, of)
		}
	}
	for _, n := range []int{-1, -15, -16, -17, -241, -1 << 16, -1<<31 + 3, -1<<32 + 9, math.MinInt, math.MinInt + 1, math.MinInt + 15} {
		if got := fates.Of(n); got != (fates.Fate{}) {
			t.Errorf("%d: %v", n, got)
		}
	}
}

// P20.1: the chapter's example, and Fates that are zero.
func TestExample(t *testing.T) {
	var f fates.Fates
	wantAll(t, &f)
	if f.Add(1) != api.OK || f.Take() != (fates.Fate{Lost: true}) {
		t.Error("Add(1), Take")
	}
	wantAll(t, &f)
}

// P20.1: Add of none, one, several; they stand behind the others.
func TestAdd(t *testing.T) {
	f := &fates.Fates{}
	wantAdded(t, f)
	wantAdded(t, f, []int{}...)
	wantAll(t, f)
	wantAdded(t, f, 5)
	wantAll(t, f, 5)
	wantAdded(t, f)
	wantAll(t, f, 5)
	wantAdded(t, f, 0, 15, 8)
	wantAll(t, f, 5, 0, 15, 8)
	wantAdded(t, f, 5, 5)
	wantAll(t, f, 5, 0, 15, 8, 5, 5)
	wantTaken(t, f, 5, 0)
	wantAll(t, f, 15, 8, 5, 5)
	wantAdded(t, f, 1)
	wantAll(t, f, 15, 8, 5, 5, 1)
	for n := range 16 {
		g := &fates.Fates{}
		wantAdded(t, g, n)
		wantAll(t, g, n)
		wantTaken(t, g, n)
		wantAll(t, g)
	}
}

// P20.1: numbers that are no fate's, alone and among right ones: none of them is added.
func TestAddWrong(t *testing.T) {
	for _, wrong := range []int{-1, -2, -15, -16, -17, -256, 16, 17, 31, 32, 255, 256, 257, 1 << 16, 1 << 32, 1<<32 + 1, -1 << 32, math.MaxInt, math.MinInt} {
		f := &fates.Fates{}
		wantNotAdded(t, f, api.ErrArg, wrong)
		wantAdded(t, f, 3, 4)
		wantNotAdded(t, f, api.ErrArg, wrong)
		for n := 1; n < 5; n++ {
			for i := range n {
				l := []int{0, 15, 7, 1}[:n]
				l[i] = wrong
				wantNotAdded(t, f, api.ErrArg, l...)
			}
		}
		wantAll(t, f, 3, 4)
	}
}

// numbers are n of them.
func numbers(n int) []int {
	all := make([]int, n)
	for i := range all {
		all[i] = i * 7 % 16
	}
	return all
}

// P20.1: up to MaxFates, and one more, by one call and by many.
func TestAddTooMany(t *testing.T) {
	f := &fates.Fates{}
	wantNotAdded(t, f, api.ErrQueue, numbers(65)...)
	wantNotAdded(t, f, api.ErrQueue, numbers(128)...)
	wantNotAdded(t, f, api.ErrQueue, numbers(100000)...)
	wantAdded(t, f, numbers(64)...)
	wantAll(t, f, numbers(64)...)
	for n := range 66 {
		if n > 0 {
			wantNotAdded(t, f, api.ErrQueue, numbers(n)...)
		}
	}
	wantAdded(t, f)
	wantAll(t, f, numbers(64)...)
	g := &fates.Fates{}
	for i, n := range numbers(64) {
		wantAdded(t, g, n)
		wantAll(t, g, numbers(i+1)...)
	}
	wantNotAdded(t, g, api.ErrQueue, 1)
	for ahead := range 65 {
		for more := range 66 {
			h := &fates.Fates{}
			wantAdded(t, h, numbers(ahead)...)
			if ahead+more > 64 {
				wantNotAdded(t, h, api.ErrQueue, numbers(more)...)
			} else {
				wantAdded(t, h, numbers(more)...)
				wantAll(t, h, append(numbers(ahead), numbers(more)...)...)
			}
		}
	}
}

// P20.1: what is too much and wrong as well is ErrArg.
func TestAddWrongAndTooMany(t *testing.T) {
	f := &fates.Fates{}
	wantAdded(t, f, numbers(64)...)
	wantNotAdded(t, f, api.ErrArg, 16)
	wantNotAdded(t, f, api.ErrArg, 1, -1)
	wantNotAdded(t, &fates.Fates{}, api.ErrArg, append(numbers(64), 16)...)
	wantNotAdded(t, &fates.Fates{}, api.ErrArg, append(numbers(100), -1, 3)...)
}

// P20.1: what is taken makes room.
func TestRoomAgain(t *testing.T) {
	f := &fates.Fates{}
	wantAdded(t, f, numbers(64)...)
	wantTaken(t, f, numbers(64)[:3]...)
	wantNotAdded(t, f, api.ErrQueue, 1, 2, 3, 4)
	wantAdded(t, f, 1, 2, 3)
	wantNotAdded(t, f, api.ErrQueue, 4)
	wantTaken(t, f, append(numbers(64)[3:], 1, 2, 3)...)
	wantAll(t, f)
	wantAdded(t, f, numbers(64)...)
}

// P20.1: Take of none is a fate of nothing, as often as it is asked for, and what comes then is taken.
func TestTakeOfNone(t *testing.T) {
	f := &fates.Fates{}
	for range 3 {
		if f.Take() != (fates.Fate{}) {
			t.Error("something of none")
		}
		wantAll(t, f)
	}
	wantAdded(t, f, 9)
	wantTaken(t, f, 9)
	if f.Take() != (fates.Fate{}) || f.Take() != (fates.Fate{}) {
		t.Error("something of none again")
	}
	wantAdded(t, f, 6, 2)
	wantTaken(t, f, 6, 2)
}

// P20.1: of nil: ErrArg, none.
func TestNil(t *testing.T) {
	var f *fates.Fates
	for _, l := range [][]int{nil, {}, {1}, {0, 15}, {16}, numbers(65)} {
		if e := f.Add(l...); e != api.ErrArg {
			t.Errorf("%v: error %d", l, e)
		}
	}
	if f.Take() != (fates.Fate{}) || len(f.All()) != 0 {
		t.Error("something of nil")
	}
}

// P20.2: by lot: fates are taken in the order in which they came, whatever was refused meanwhile.
func TestInOrder(t *testing.T) {
	lot := rand.New(rand.NewSource(20))
	f := &fates.Fates{}
	var waiting []int
	seen := map[api.Errno]int{}
	for range 20000 {
		if lot.Intn(2) == 0 {
			want := fates.Fate{}
			for range lot.Intn(8) {
				if len(waiting) > 0 {
					want = byWords()[waiting[0]]
					waiting = waiting[1:]
				} else {
					want = fates.Fate{}
				}
				if got := f.Take(); got != want {
					t.Fatalf("%v, want %v", got, want)
				}
			}
		} else {
			var l []int
			e := api.OK
			for range lot.Intn(12) {
				l = append(l, lot.Intn(16))
			}
			if len(waiting)+len(l) > 64 {
				e = api.ErrQueue
			}
			if len(l) > 0 && lot.Intn(9) == 0 {
				l[lot.Intn(len(l))] = 16
				e = api.ErrArg
			}
			seen[e]++
			if got := f.Add(l...); got != e {
				t.Fatalf("%v: error %d, want %d", l, got, e)
			}
			if e == api.OK {
				waiting = append(waiting, l...)
			}
		}
		wantAll(t, f, waiting...)
	}
	if seen[api.OK] < 1000 || seen[api.ErrArg] < 100 || seen[api.ErrQueue] < 100 {
		t.Error(seen)
	}
}

// P20.1 and rule 2: a list that was told isn't changed by what comes later, and changing it, its spare room too, changes nothing.
func TestAllIsNew(t *testing.T) {
	f := &fates.Fates{}
	wantAdded(t, f, 1, 2, 3)
	first, second := f.All(), f.All()
	wantTaken(t, f, 1)
	wantAdded(t, f, 4, 5)
	third := f.All()
	if !slices.Equal(first, []int{1, 2, 3}) || !slices.Equal(second, []int{1, 2, 3}) || !slices.Equal(third, []int{2, 3, 4, 5}) {
		t.Error(first, second, third)
	}
	for _, l := range [][]int{first, third} {
		l = l[:cap(l)]
		for i := range l {
			l[i] = 99
		}
	}
	if !slices.Equal(second, []int{1, 2, 3}) {
		t.Error(second)
	}
	wantAll(t, f, 2, 3, 4, 5)
	wantAdded(t, f, 6)
	wantAll(t, f, 2, 3, 4, 5, 6)
	wantTaken(t, f, 2, 3, 4, 5, 6)
}

// Rule 2: what is handed in is neither changed, its spare room included, nor kept.
func TestAddKeepsNothing(t *testing.T) {
	room := []int{1, 2, 3, 4, 5}
	f := &fates.Fates{}
	wantAdded(t, f, room[:3]...)
	wantAdded(t, f, 7)
	wantTaken(t, f, 1)
	wantAdded(t, f, 8)
	if !slices.Equal(room, []int{1, 2, 3, 4, 5}) {
		t.Error(room)
	}
	for i := range room {
		room[i] = 15
	}
	wantAll(t, f, 2, 3, 7, 8)
	wantTaken(t, f, 2, 3, 7, 8)
}

// Two Fates are nothing to each other.
func TestApart(t *testing.T) {
	f, g := &fates.Fates{}, &fates.Fates{}
	wantAdded(t, f, 1, 2)
	wantAll(t, g)
	wantAdded(t, g, 3)
	wantTaken(t, f, 1)
	wantAll(t, f, 2)
	wantAll(t, g, 3)
}
