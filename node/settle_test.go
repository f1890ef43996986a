package node_test

import (
	"slices"
	"testing"

	"lamella/api"
	"lamella/atlas"
	"lamella/blocks"
	"lamella/node"
)

// tellsAll checks that nothing is open, that each shard of the map is installed, and that its blocks are those of a store, for clients, too.
func tellsAll(t *testing.T, what string, n *node.Node, want *blocks.Store, seq int) {
	t.Helper()
	if l := n.Map().Open(); len(l) > 0 {
		t.Fatalf("%s: %v are open", what, l)
	}
	for _, s := range n.Map().Shards() {
		if n.Store(s.Id) == nil {
			t.Fatalf("%s: the shard %d isn't installed", what, s.Id)
		}
	}
	alike(t, n, want)
	for b := range want.Span().To {
		s, _ := n.Map().Find(b)
		text, _ := want.Block(b)
		x := read(3, seq+b, b, b+1)
		sends(t, what, n.Hear(asks(0, s.Id, x)), replies(0, s.Id, x, text))
	}
}

// written is a node alone that leads, each of whose blocks was written by a client, and what they are.
func written(t *testing.T) (*node.Node, *blocks.Store) {
	t.Helper()
	n, _ := begins(t, 0, alone())
	leads(t, n)
	w := write(1, 1, 0, "a", "b", "c", "d", "e", "f", "g", "h")
	sends(t, "a write", n.Hear(asks(0, 1, w)), replies(0, 1, w))
	return n, store(t, 0, 8, w)
}

// P13.12, P5, P13.9: who wishes to end a change ahead of time loses nothing: it isn't offered till the open shards are installed, and ends by itself.
func TestEndAheadOfTimeAlone(t *testing.T) {
	for _, x := range []struct {
		ahead []api.Change
		c     api.Change
	}{{nil, split(1, 4)}, {nil, renew(1)}, {[]api.Change{split(1, 4)}, merge(2, 3)}, {[]api.Change{split(1, 4)}, split(3, 6)}, {[]api.Change{renew(1)}, renew(2)}} {
		early, late := 0, 0
		for wait := range 10 {
			n, want := written(t)
			for _, c := range x.ahead {
				wishes(t, "a change", n, c, api.OK)
				ticks(n, 10)
			}
			wishes(t, "another change", n, x.c, api.OK)
			ticks(n, wait)
			open := n.Map()
			_, e := n.Wish(settle())
			switch e {
			case api.OK:
				late++
			case api.ErrBusy:
				early++
				has(t, "ahead of time", n, open)
			default:
				if e != api.ErrNone || len(open.Open()) > 0 {
					t.Fatalf("%v, %d ticks later its end: error %d", x.c, wait, e)
				}
			}
			ticks(n, 10)
			tellsAll(t, "behind a change", n, want, 1)
		}
		if early == 0 || late == 0 {
			t.Errorf("%v: its end was wished %d times ahead of time, and %d times in time", x.c, early, late)
		}
	}
}

// P13.12, P5: whatever is wished, in whatever order, whenever the power goes: no block changes, and each change ends.
func TestAnyWishesAlone(t *testing.T) {
	settles := map[api.Errno]int{}
	for seed := range int64(40) {
		d := newDice(seed)
		c := alone()
		c.Blocks = 1 + d.Intn(20)
		n, dev := begins(t, 0, c)
		leads(t, n)
		want := store(t, 0, c.Blocks)
		w := &world{t: t, d: d, conf: c, nodes: []*node.Node{n}}
		for seq := 1; seq <= 150; seq++ {
			x := d.piece(n, 0, seq)
			s, _ := n.Map().Find(x.From)
			if l := of(n.Hear(asks(0, s.Id, x)), api.MailReply); len(l) > 0 {
				reply, _ := want.Apply(x)
				sends(t, "a command", l, replies(0, s.Id, x, reply.Data...))
			}
			for range d.Intn(4) {
				x := w.anyChange(0)
				_, e := n.Wish(x)
				if x.Kind == api.ChangeSettle {
					settles[e]++
				}
			}
			if d.Intn(20) == 0 {
				dev.Crash(0)
				n = opens(t, dev, 0)
				w.nodes[0] = n
				ticks(n, d.Intn(30))
			}
			ticks(n, d.Intn(3))
		}
		ticks(n, 30)
		tellsAll(t, "a while later", n, want, 1)
	}
	if settles[api.OK] < 50 || settles[api.ErrBusy] < 50 {
		t.Errorf("ends that were wished, by what was answered: %v", settles)
	}
}

// P13.9, P5: nobody ends a change ahead of a majority's having each open shard installed, neither by a wish nor by a mail.
func TestEndAheadOfTime(t *testing.T) {
	for _, heard := range [][]api.Mail{
		nil, {tells(1, 0, 2)}, {tells(1, 0, 2), tells(1, 0, 3)}, {tells(1, 0, 2), tells(2, 0, 2)}, {tells(1, 0, 3), tells(2, 0, 3)}, {tells(1, 0, 2), tells(2, 0, 2), tells(1, 0, 3)},
		{tells(1, 0, 2), tells(2, 0, 2), tells(3, 0, 3), tells(1, 0, 3)}, {tells(1, 0, 2), tells(2, 0, 2), tells(1, 0, 4), tells(2, 0, 4)}, {tells(1, 0, 1), tells(2, 0, 1)},
	} {
		n, _ := begins(t, 0, four())
		leads(t, n)
		at := behind(t, four(), split(1, 4))
		wishes(t, "a split", n, split(1, 4), api.OK)
		for _, m := range heard {
			n.Hear(m)
		}
		wishes(t, "its end", n, settle(), api.ErrBusy)
		sends(t, "its end by a mail", n.Hear(wish(1, 0, settle())))
		sends(t, "its end by a client's", n.Hear(wish(100, 0, settle())))
		has(t, "ahead of time", n, at)
		wishes(t, "another one", n, renew(2), api.ErrDown)
		ends(n, 1, 2)
		at.Apply(settle())
		has(t, "in time", n, at)
	}
}

// P13.9: in time the end is offered to whoever wishes it, by a mail, too.
func TestEndInTime(t *testing.T) {
	for _, ask := range []func(n *node.Node){
		func(n *node.Node) { wishes(t, "in time", n, settle(), api.OK) },
		func(n *node.Node) { n.Hear(wish(1, 0, settle())) },
		func(n *node.Node) { n.Tick() },
	} {
		n, _ := begins(t, 0, four())
		leads(t, n)
		wishes(t, "a split", n, split(1, 4), api.OK)
		mayEnd(t, n, 2, 3)
		has(t, "nobody has asked yet", n, behind(t, four(), split(1, 4)))
		ask(n)
		has(t, "in time", n, behind(t, four(), split(1, 4), settle()))
	}
}

// P5: what a new leader hasn't been told of yet may have opened other shards: no end that is wished for the last ones comes behind these.
func TestEndOfAnotherChange(t *testing.T) {
	n, _ := begins(t, 0, three())
	n.Hear(api.Mail{Kind: api.MailAppend, From: 1, To: 0, Term: 1, Entries: []api.Entry{{Term: 1}, change(renew(1)), change(settle()), change(renew(2))}, Commit: 2})
	ticks(n, 10)
	n.Hear(api.Mail{Kind: api.MailVoted, From: 1, To: 0, Term: 2, Ok: true})
	if !n.Leads() {
		t.Fatal("it doesn't lead")
	}
	n.Hear(tells(1, 0, 2))
	n.Hear(tells(2, 0, 2))
	wishes(t, "it isn't told all", n, settle(), api.ErrBusy)
	sends(t, "it isn't told all", n.Hear(wish(1, 0, settle())))
	for index := 5; index <= 6; index++ {
		n.Hear(api.Mail{Kind: api.MailAppended, From: 1, To: 0, Term: 2, Ok: true, Index: index})
	}
	has(t, "it is told all", n, behind(t, three(), renew(1), settle(), renew(2)))
	wishes(t, "nobody has the next one", n, settle(), api.ErrBusy)
}

// P13.5: voters that aren't agreed on yet don't hinder the end of a change, and what they agree on later is that end.
func TestEndBehindVoters(t *testing.T) {
	n, _ := begins(t, 0, three())
	elected(t, n)
	wishes(t, "a renewal", n, renew(1), api.OK)
	appended(n, 2)
	if _, e := n.Elect([]int{0, 1}); e != api.OK {
		t.Fatalf("Elect: error %d", e)
	}
	ends(n, 1, 2)
	wishes(t, "it is offered", n, settle(), api.ErrBusy)
	appended(n, 4)
	has(t, "it is told", n, behind(t, three(), renew(1), settle()))
}

// P5, P4: many nodes of which each is asked for the end again and again, by clients, too, from the beginning of a change on: each block has what was written.
func TestEndsAheadOfTimeInRounds(t *testing.T) {
	busy := 0
	for _, c := range []api.Conf{three(), four(), {Nodes: 5, Half: 2, Blocks: 12, Voters: 3, Clients: 3, Room: 4000}, {Nodes: 4, Blocks: 12, Voters: 4, Clients: 3, Room: 4000}} {
		w := newWorld(t, 1, c)
		w.ask(0, write(0, 0, 0, "a", "b", "c", "d", "e", "f", "g", "h", "i", "j", "k", "l"))
		w.until("the write is done", func() bool { return w.askers[0].deed == nil })
		for i, x := range []api.Change{split(1, 4), renew(2), merge(4, 3), replace(5, 0, c.Nodes-1), split(6, 7)} {
			if x.Kind == api.ChangeReplace && x.In <= 2*c.Half {
				x = renew(x.Shard)
			}
			w.until("it is offered", func() bool { return w.wishes(x) })
			w.until("it ends", func() bool {
				for n := range w.nodes {
					l, e := w.nodes[n].Wish(settle())
					w.does(n, l)
					w.mails = append(w.mails, wish(100, n, settle()))
					if e == api.ErrBusy {
						busy++
					}
				}
				return w.isCalm() && w.nodes[0].Map().Epoch() == i+2
			})
		}
		w.ask(1, read(0, 0, 0, 12))
		d := w.askers[1].deed
		w.until("the read is done", func() bool { return w.askers[1].deed == nil })
		for b := range 12 {
			if want := string(rune('a' + b)); d.texts[b] != want {
				t.Errorf("the block %d is %q and not %q", b, d.texts[b], want)
			}
		}
		w.goTogether()
	}
	if busy < 100 {
		t.Errorf("hardly any end is wished ahead of time: %d", busy)
	}
}

// until lets rounds go by till something holds.
func (w *world) until(what string, holds func() bool) {
	w.t.Helper()
	for range 300 {
		if holds() {
			return
		}
		w.round()
	}
	w.t.Fatalf("%s: it doesn't come", what)
}

// wishes lets who leads wish a change; false, if nobody took it.
func (w *world) wishes(c api.Change) bool {
	return slices.ContainsFunc(w.nodes, func(n *node.Node) bool {
		l, e := n.Wish(c)
		if e == api.OK {
			w.does(slices.Index(w.nodes, n), l)
		}
		return e == api.OK
	})
}

// P13.9: an end that is refused changes nothing that is kept, either.
func TestEndAheadOfTimeIsntKept(t *testing.T) {
	n, d := begins(t, 0, alone())
	leads(t, n)
	wishes(t, "a split", n, split(1, 4), api.OK)
	wishes(t, "its end", n, settle(), api.ErrBusy)
	d.Crash(0)
	n = opens(t, d, 0)
	if !atlas.Same(n.Map(), behind(t, alone(), split(1, 4))) {
		t.Errorf("behind a crash the map has %v, open %v", n.Map().Shards(), n.Map().Open())
	}
	leads(t, n)
	n.Tick()
	hosts(t, "later", n, 2, 3)
}
