package queue_test

import (
	"math"
	"math/rand"
	"slices"
	"testing"

	"tollhouse/api"
	"tollhouse/ops"
	"tollhouse/queue"
	"tollhouse/table"
)

// item is one of that Id, in all its fields unlike each other one.
func item(id int) queue.Item {
	return queue.Item{Id: id, Kind: id%3 + 1, Name: string([]byte{byte('a' + id%26), byte('a' + id/26%26)}), N: id * 3, Data: api.Block{byte(id), byte(id >> 8), 31: 1}}
}

// items are n of them, the first of that Id.
func items(first, n int) []queue.Item {
	var all []queue.Item
	for k := range n {
		all = append(all, item(first+k))
	}
	return all
}

// filled is a queue in which those items wait, one added behind the other.
func filled(t *testing.T, l ...queue.Item) *queue.Queue {
	t.Helper()
	q := &queue.Queue{}
	for _, i := range l {
		wantAdded(t, q, i)
	}
	return q
}

// wantWaiting holds Len and Head against those items.
func wantWaiting(t *testing.T, q *queue.Queue, l ...queue.Item) {
	t.Helper()
	if q.Len() != len(l) {
		t.Errorf("%d wait, want %d", q.Len(), len(l))
	}
	got, ok := q.Head()
	if len(l) == 0 {
		if ok || got != (queue.Item{}) {
			t.Errorf("%v, %t, want none", got, ok)
		}
		return
	}
	if !ok || got != l[0] {
		t.Errorf("%v, %t, want %v", got, ok, l[0])
	}
}

// wantAdded adds those items.
func wantAdded(t *testing.T, q *queue.Queue, l ...queue.Item) {
	t.Helper()
	if e := q.Add(l...); e != api.OK {
		t.Errorf("%v: error %d", l, e)
	}
}

// wantFull holds Add of those items against ErrQueue.
func wantFull(t *testing.T, q *queue.Queue, l ...queue.Item) {
	t.Helper()
	if e := q.Add(l...); e != api.ErrQueue {
		t.Errorf("%d items: error %d, want ErrQueue", len(l), e)
	}
}

// wantPopped holds all that wait against those items, one behind the other, till there is none.
func wantPopped(t *testing.T, q *queue.Queue, l ...queue.Item) {
	t.Helper()
	for k := range l {
		wantWaiting(t, q, l[k:]...)
		if !q.Pop() {
			t.Errorf("%v is not gone", l[k])
		}
	}
	wantWaiting(t, q)
	if q.Pop() {
		t.Error("one too many")
	}
	wantWaiting(t, q)
}

// ids are those of the items.
func ids(l []queue.Item) []int {
	var all []int
	for _, i := range l {
		all = append(all, i.Id)
	}
	return all
}

// P21.1: a Queue that is zero is empty.
func TestZero(t *testing.T) {
	var q queue.Queue
	wantPopped(t, &q)
	if l := q.Clear(); len(l) != 0 || q.Len() != 0 {
		t.Error(l)
	}
	wantAdded(t, &q)
	wantAdded(t, &q, []queue.Item{}...)
	wantPopped(t, &q)
	wantAdded(t, &q, item(7))
	wantPopped(t, &q, item(7))
}

// P21.1: of nil: ErrArg, false, none, 0.
func TestNil(t *testing.T) {
	var q *queue.Queue
	for n := range 7 {
		if e := q.Add(items(1, n)...); e != api.ErrArg {
			t.Errorf("%d items: error %d", n, e)
		}
	}
	if i, ok := q.Head(); ok || i != (queue.Item{}) {
		t.Error(i, ok)
	}
	if q.Pop() || len(q.Clear()) != 0 || q.Len() != 0 {
		t.Error("something of nil")
	}
}

// P21.1: the chapter's example, by one call and by five.
func TestExample(t *testing.T) {
	wantFull(t, &queue.Queue{}, items(1, 5)...)
	wantFull(t, filled(t, items(1, 4)...), item(5))
}

// P21.1: each number of items that wait, and each number that is added: all of them, or none.
func TestAdd(t *testing.T) {
	for ahead := range 5 {
		for more := range 11 {
			q := filled(t, items(1, ahead)...)
			if ahead+more > 4 {
				wantFull(t, q, items(100, more)...)
				wantPopped(t, q, items(1, ahead)...)
			} else {
				wantAdded(t, q, items(100, more)...)
				wantPopped(t, q, append(items(1, ahead), items(100, more)...)...)
			}
		}
	}
	q := filled(t, items(1, 2)...)
	wantFull(t, q, items(1, 100000)...)
	wantPopped(t, q, items(1, 2)...)
}

// P21.1: what an item says does not matter to the queue; it is told as it was.
func TestAnyItem(t *testing.T) {
	all := []queue.Item{{}, {Id: -1, Kind: -5, Name: "no name at all", N: math.MinInt}, {Id: math.MaxInt, Kind: math.MaxInt, Name: "\x00\xff", N: math.MaxInt}, {Id: math.MinInt, Data: api.Block{31: 9}}}
	wantPopped(t, filled(t, all...), all...)
	if l := filled(t, all...).Clear(); !slices.Equal(l, []int{0, -1, math.MaxInt, math.MinInt}) {
		t.Error(l)
	}
	same := []queue.Item{item(3), item(3), item(3), item(3)}
	wantPopped(t, filled(t, same...), same...)
}

// P21.1: Pop makes room for one more, each time.
func TestRoomAgain(t *testing.T) {
	q := filled(t, items(0, 4)...)
	for k := range 50 {
		wantFull(t, q, item(99))
		wantWaiting(t, q, items(k, 4)...)
		if !q.Pop() {
			t.Fatal("nothing is gone")
		}
		wantFull(t, q, item(98), item(99))
		wantWaiting(t, q, items(k+1, 3)...)
		wantAdded(t, q, item(k+4))
	}
	wantPopped(t, q, items(50, 4)...)
}

// P21.1: Clear tells the Ids, in order, and all are gone; there is room for as many again.
func TestClear(t *testing.T) {
	for n := range 5 {
		for gone := range n + 1 {
			q := filled(t, items(10, n)...)
			for range gone {
				q.Pop()
			}
			if l := q.Clear(); !slices.Equal(l, ids(items(10, n)[gone:])) {
				t.Errorf("%d, %d: %v", n, gone, l)
			}
			wantPopped(t, q)
			if l := q.Clear(); len(l) != 0 {
				t.Errorf("%d, %d: %v again", n, gone, l)
			}
			wantAdded(t, q, items(50, 4)...)
			wantFull(t, q, item(1))
			wantPopped(t, q, items(50, 4)...)
		}
	}
}

// P21.1: Head changes nothing.
func TestHeadAgain(t *testing.T) {
	q := filled(t, items(1, 3)...)
	for range 5 {
		wantWaiting(t, q, items(1, 3)...)
	}
	wantPopped(t, q, items(1, 3)...)
}

// P21.3: by lot: what comes first goes first, added in one call or in several, whatever is refused meanwhile.
func TestInOrder(t *testing.T) {
	lot := rand.New(rand.NewSource(21))
	q := &queue.Queue{}
	var waiting []queue.Item
	next, refused := 1, 0
	for range 20000 {
		switch lot.Intn(7) {
		case 0, 1, 2:
			l := items(next, lot.Intn(6))
			next += len(l)
			if len(waiting)+len(l) > 4 {
				refused++
				wantFull(t, q, l...)
				break
			}
			wantAdded(t, q, l...)
			waiting = append(waiting, l...)
		case 3, 4, 5:
			if got, want := q.Pop(), len(waiting) > 0; got != want {
				t.Fatalf("gone: %t, want %t", got, want)
			}
			waiting = waiting[min(1, len(waiting)):]
		case 6:
			if l := q.Clear(); !slices.Equal(l, ids(waiting)) {
				t.Fatalf("%v, want %v", l, ids(waiting))
			}
			waiting = nil
		}
		wantWaiting(t, q, waiting...)
	}
	if refused < 1000 {
		t.Error(refused)
	}
}

// Rule 2: what was handed in is neither changed, its spare room included, nor kept.
func TestAddKeepsNothing(t *testing.T) {
	room := items(1, 6)
	q := &queue.Queue{}
	wantAdded(t, q, room[:2]...)
	wantAdded(t, q, item(50))
	if !slices.Equal(room, items(1, 6)) {
		t.Error(room)
	}
	for k := range room {
		room[k] = queue.Item{Id: -9}
	}
	wantAdded(t, q, item(51))
	wantPopped(t, q, item(1), item(2), item(50), item(51))
}

// Rule 2: the Ids that were told may be changed, their spare room too, and two lists share none.
func TestClearIsNew(t *testing.T) {
	q := filled(t, items(1, 4)...)
	first := q.Clear()
	wantAdded(t, q, items(5, 3)...)
	second := q.Clear()
	wantAdded(t, q, items(8, 2)...)
	for _, l := range [][]int{first, second} {
		copied := slices.Clone(l)
		l = l[:cap(l)]
		for k := range l {
			l[k] = -1
		}
		if slices.Equal(l, copied) {
			t.Error("nothing was turned")
		}
	}
	wantPopped(t, q, items(8, 2)...)
}

// Two queues are nothing to each other.
func TestApart(t *testing.T) {
	q, r := filled(t, items(1, 3)...), filled(t, items(9, 1)...)
	q.Pop()
	wantAdded(t, r, item(20))
	wantPopped(t, q, items(2, 2)...)
	wantPopped(t, r, item(9), item(20))
}

// tableOf is the volumes' block.
func tableOf(t *testing.T, l ...api.Volume) api.Block {
	t.Helper()
	b, e := table.Encode(l...)
	if e != api.OK {
		t.Fatalf("%v: error %d", l, e)
	}
	return b
}

// tables are blocks of no volumes, of some, of as many as there may be, and such as are no table's.
func tables(t *testing.T) []api.Block {
	a, b, c := api.Volume{Name: "a", Blocks: []int{5, 2}}, api.Volume{Name: "data", Blocks: []int{1, 3, 4, 6}}, api.Volume{Name: "z", Blocks: []int{7, 8, 9, 10}}
	return []api.Block{{}, tableOf(t, a), tableOf(t, a, b), tableOf(t, b, c), tableOf(t, a, b, c), {9}, {31: 1}, {1, 'A'}}
}

// wantPuts holds Puts against those puts, or that error.
func wantPuts(t *testing.T, i queue.Item, b api.Block, puts []api.Put, e api.Errno) {
	t.Helper()
	got, f := queue.Puts(i, b)
	if f != e || !slices.Equal(got, puts) {
		t.Errorf("%v: %v, error %d, want %v, error %d", i, got, f, puts, e)
	}
}

// P21.2: known puts of each kind.
func TestPutsKnown(t *testing.T) {
	b := tableOf(t, api.Volume{Name: "a", Blocks: []int{5, 2}})
	data := api.Block{1, 2, 31: 3}
	wantPuts(t, queue.Item{Id: 9, Kind: 1, Name: "a", N: 1, Data: data}, b, []api.Put{{At: 2, Data: data}}, api.OK)
	behind := tableOf(t, api.Volume{Name: "a", Blocks: []int{5, 2}}, api.Volume{Name: "b", Blocks: []int{1, 3}})
	wantPuts(t, queue.Item{Id: 9, Kind: 2, Name: "b", N: 2, Data: data}, b, []api.Put{{At: 1}, {At: 3}, {At: 0, Data: behind}}, api.OK)
	wantPuts(t, queue.Item{Id: 9, Kind: 3, Name: "a", N: 7, Data: data}, b, []api.Put{{}}, api.OK)
}

// P21.2: as the calls of ops tell them, errors too, by tables and by what is none.
func TestPutsAreOps(t *testing.T) {
	seen := map[api.Errno]int{}
	for _, b := range tables(t) {
		for _, name := range []string{"a", "data", "z", "new", "", "A", "abcde"} {
			for _, n := range []int{0, 1, 2, 3, 4, 5, -1, 255, math.MaxInt, math.MinInt} {
				i := queue.Item{Id: n, Name: name, N: n, Data: api.Block{byte(n), 5}}
				for kind, told := range map[int]func() ([]api.Put, api.Errno){
					queue.Write: func() ([]api.Put, api.Errno) { return ops.Write(b, name, n, i.Data) },
					queue.Make:  func() ([]api.Put, api.Errno) { return ops.Make(b, name, n) },
					queue.Gone:  func() ([]api.Put, api.Errno) { return ops.Gone(b, name) },
				} {
					i.Kind = kind
					puts, e := told()
					seen[e]++
					wantPuts(t, i, b, puts, e)
				}
			}
		}
	}
	for _, e := range []api.Errno{api.OK, api.ErrForm, api.ErrName, api.ErrRange, api.ErrQuota} {
		if seen[e] == 0 {
			t.Errorf("no error %d", e)
		}
	}
}

// P21.2: other kinds: ErrArg, whatever else there is to say.
func TestPutsOfOtherKinds(t *testing.T) {
	for _, kind := range []int{0, 4, 5, -1, -2, -3, 256, 257, 1<<32 + 1, math.MaxInt, math.MinInt} {
		for _, b := range tables(t) {
			for _, name := range []string{"a", "new", "", "A"} {
				wantPuts(t, queue.Item{Id: 1, Kind: kind, Name: name, N: 1}, b, nil, api.ErrArg)
			}
		}
	}
}

// P21.2 and rule 2: puts are new each time; those told may be changed.
func TestPutsAreNew(t *testing.T) {
	i := queue.Item{Kind: queue.Make, Name: "new", N: 2}
	first, _ := queue.Puts(i, api.Block{})
	copied := slices.Clone(first)
	second, _ := queue.Puts(i, api.Block{})
	first = first[:cap(first)]
	for k := range first {
		first[k] = api.Put{At: -1}
	}
	if !slices.Equal(second, copied) {
		t.Error(second)
	}
	wantPuts(t, i, api.Block{}, copied, api.OK)
}
