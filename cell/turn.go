package cell

import (
	"bytes"

	"tollhouse/api"
	"tollhouse/ask"
	"tollhouse/desk"
	"tollhouse/fates"
	"tollhouse/label"
	"tollhouse/lines"
	"tollhouse/node"
	"tollhouse/ops"
	"tollhouse/packet"
	"tollhouse/queue"
	"tollhouse/sender"
	"tollhouse/taker"
	"tollhouse/wal"
)

// turn is a cell while it does one thing that it is called for, and what it has answered meanwhile.
type turn struct {
	*Cell
	told []api.Reply
}

// comes is the Id of what is asked now.
func (t *turn) comes(asked []byte) int {
	t.lastId++
	t.asked[t.lastId] = bytes.Clone(asked)
	return t.lastId
}

// answer answers what was asked under that Id, and logs it.
func (t *turn) answer(id int, e api.Errno, data []byte) {
	r := api.Reply{Id: id, E: e, Data: data}
	t.told = append(t.told, r)
	t.log.Add(t.asked[id], r)
	delete(t.asked, id)
}

// ask does, or lets wait, the request whose bytes b are.
func (t *turn) ask(id int, tick uint32, b []byte) {
	a, e := ask.Decode(b)
	if e == api.OK {
		e = t.allows(a, tick)
	}
	switch {
	case e != api.OK:
		t.answer(id, e, nil)
	case a.Kind == api.AskRead:
		data, e := t.read(a)
		t.answer(id, e, data)
	default:
		t.wait(queue.Item{Id: id, Kind: queue.Write, Name: a.Volume, N: a.At, Data: a.Data})
	}
}

// line does, or lets wait, what an admin's line says.
func (t *turn) line(id int, l lines.Line) {
	switch l.Verb {
	case lines.Make:
		t.wait(queue.Item{Id: id, Kind: queue.Make, Name: l.Name, N: l.N})
	case lines.Gone:
		t.wait(queue.Item{Id: id, Kind: queue.Gone, Name: l.Name})
	case lines.Mint:
		data, e := t.mint(l)
		t.answer(id, e, data)
	case lines.Revoke:
		t.gen++
		t.answer(id, api.OK, nil)
	case lines.Promote, lines.Force:
		t.promote(id, l.N, l.Verb == lines.Force)
	case lines.Status:
		t.answer(id, api.OK, t.status())
	}
}

// read is the block that is asked for, as the primary has it.
func (t *turn) read(a api.Ask) ([]byte, api.Errno) {
	primary := t.primary()
	if primary == nil {
		return nil, api.ErrDown
	}
	table, e := primary.Block(tableAt)
	if !t.stands(t.Primary, e) {
		return nil, e
	}
	at, e := ops.Place(table, a.Volume, a.At)
	if e != api.OK {
		return nil, e
	}
	b, e := primary.Block(at)
	if !t.stands(t.Primary, e) {
		return nil, e
	}
	return b[:], api.OK
}

// wait lets the item be done when it is its turn.
func (t *turn) wait(i queue.Item) {
	if t.primary() == nil {
		t.answer(i.Id, api.ErrDown, nil)
		return
	}
	if e := t.Add(i); e != api.OK {
		t.answer(i.Id, e, nil)
		return
	}
	t.goOn()
}

// promote lets node n be the primary.
func (t *turn) promote(id, n int, force bool) {
	next := t.Node(n)
	if e := t.May(n, next != nil, force); e != api.OK {
		t.answer(id, e, nil)
		return
	}
	l := desk.Fresh(t.front, next.Label())
	if e := next.SetLabel(l); !t.stands(n, e) {
		t.answer(id, e, nil)
		// The node may come back with that label: what is sent from now on has to be of no older epoch.
		t.Epoch++
		t.Stop(true)
		t.goOn()
		return
	}
	t.front = t.Turn(n, l.Dirty)
	t.lose()
	t.answer(id, api.OK, nil)
	t.goOn()
}

// primary is the node that answers, nil while it is down.
func (t *turn) primary() *node.Node {
	return t.Node(t.Primary)
}

// stands tells whether node n still stands behind a call that told e.
func (t *turn) stands(n int, e api.Errno) bool {
	if e == api.ErrDown {
		t.fall(n)
	}
	return e == api.OK
}

// fall lets node n be down.
func (t *turn) fall(n int) {
	t.opened[n] = nil
	if n == t.Primary {
		t.lose()
	}
}

// lose answers all that waits: nobody can tell any more what becomes of it.
func (t *turn) lose() {
	for _, id := range t.Clear() {
		t.answer(id, api.ErrLost, nil)
	}
	t.Stop(false)
}

// goOn does what there is to do till that is all.
func (t *turn) goOn() {
	for t.step() {
	}
}

// step does one thing that there is to do, and tells whether there may be more.
func (t *turn) step() bool {
	_, out := t.Out()
	switch {
	case t.primary() == nil, t.Sync && out:
		return false
	case t.Len() > 0:
		return t.doHead()
	case t.Sync:
		return false
	case t.primary().Label().Dirty == 0:
		t.Sync = true
		t.Stop(true)
		return false
	case out:
		return false
	}
	return t.sendBlock()
}

// doHead sends what waits first, or does it alone where there is no Sync.
func (t *turn) doHead() bool {
	table, e := t.primary().Block(tableAt)
	if !t.stands(t.Primary, e) {
		return false
	}
	head, _ := t.Head()
	puts, e := queue.Puts(head, table)
	if e != api.OK {
		t.finish(e)
		return true
	}
	n, ok := t.number(puts...)
	if !ok {
		return false
	}
	if t.Sync {
		return t.send(api.PktOp, n, puts...)
	}
	if !t.apply(wal.Record{Epoch: t.Epoch, Seq: n, Puts: puts}, t.primary().Label().Dirty) {
		return false
	}
	t.Touch(puts...)
	t.finish(api.OK)
	return true
}

// sendBlock sends one of the dirty blocks, as it is.
func (t *turn) sendBlock() bool {
	at, ok := sender.Pick(t.primary().Label().Dirty)
	if !ok {
		return false
	}
	n, ok := t.number()
	if !ok {
		return false
	}
	data, e := t.primary().Block(at)
	return t.stands(t.Primary, e) && t.send(api.PktSync, n, api.Put{At: at, Data: data})
}

// number is that of the primary's next record, with these blocks dirty from now on.
func (t *turn) number(puts ...api.Put) (uint32, bool) {
	l := t.primary().Label()
	n := l.Next
	l.Next++
	l.Dirty |= label.Bits(puts...)
	return n, t.stands(t.Primary, t.primary().SetLabel(l))
}

// send lets a packet of these puts be out.
func (t *turn) send(kind int, n uint32, puts ...api.Put) bool {
	return t.Send(api.Packet{Kind: kind, Epoch: t.Epoch, Seq: n, Puts: puts}) == api.OK
}

// apply does the record on the primary.
func (t *turn) apply(r wal.Record, dirty uint16) bool {
	return t.stands(t.Primary, t.primary().Apply(r, dirty))
}

// finish answers what waits first, which is gone then.
func (t *turn) finish(e api.Errno) {
	head, _ := t.Head()
	t.answer(head.Id, e, nil)
	t.Pop()
}

// slot lets what is out come over the link, if it is whole, and the answer come back.
func (t *turn) slot(f fates.Fate, whole bool) {
	p, out := t.Out()
	if !out {
		return
	}
	var answer api.Packet
	if whole {
		answer = t.deliver(p, f)
	}
	if f.Deaf {
		answer = api.Packet{}
	}
	if touched, ok := t.Acked(answer); ok {
		t.settle(p, touched)
		t.goOn()
		return
	}
	t.miss()
}

// deliver is what the other node answers to the packet that is out; a packet of nothing, if it does not.
func (t *turn) deliver(p api.Packet, f fates.Fate) api.Packet {
	if early, ok := t.Early(); ok && f.Late {
		t.take(early)
	}
	if f.Lost {
		return api.Packet{}
	}
	answer := t.take(p)
	if f.Twice {
		answer = t.take(p)
	}
	return answer
}

// take is what the other node answers to a packet; a packet of nothing, if it is down then.
func (t *turn) take(p api.Packet) api.Packet {
	other := t.Node(t.Other())
	if other == nil {
		return api.Packet{}
	}
	// No error to tell: a packet that was out has bytes.
	b, _ := packet.Encode(p)
	answer, e := taker.Take(other, b)
	t.stands(t.Other(), e)
	return answer
}

// settle does what is left to do of a packet that the other node has done.
func (t *turn) settle(p api.Packet, touched bool) {
	l := t.primary().Label()
	l.Dirty &^= label.Bits(p.Puts...)
	switch {
	case p.Kind == api.PktOp:
		if t.apply(wal.Record{Epoch: p.Epoch, Seq: p.Seq, Puts: p.Puts}, l.Dirty) {
			t.finish(api.OK)
		}
	case !touched:
		t.stands(t.Primary, t.primary().SetLabel(l))
	}
}

// miss counts a slot without an answer; the primary does not wait for the other node for ever.
func (t *turn) miss() {
	if t.Sync && t.Missed() >= api.Patience {
		t.Sync = false
		t.Stop(true)
		t.goOn()
	}
}
