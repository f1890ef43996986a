package node_test

import (
	"math"
	"slices"
	"strings"
	"testing"

	"lamella/api"
	"lamella/atlas"
	"lamella/blocks"
	"lamella/disk"
	"lamella/node"
)

// isKept checks that all that a node knows is sure: who takes its device now, and opens it, has the same.
func isKept(t *testing.T, n *node.Node, d *disk.Disk, self int) {
	t.Helper()
	d = d.Clone()
	d.Crash(0)
	x := opens(t, d, self)
	has(t, "opened again", x, n.Map())
	hosts(t, "opened again", x, n.Hosts()...)
	for _, s := range n.Hosts() {
		if l := x.Insts(s); !slices.EqualFunc(l, n.Insts(s), instsAlike) {
			t.Fatalf("shard %d: %v is kept, and %v known", s, l, n.Insts(s))
		}
		stores(t, "opened again", x, s, n.Store(s))
		if l := x.Log(s); len(l) != len(n.Log(s)) {
			t.Fatalf("shard %d: %v is executed again, and not %v", s, l, n.Log(s))
		}
	}
}

// P13.3, P13.11: all is kept behind each call.
func TestKept(t *testing.T) {
	epochs := 0
	for seed, c := range []api.Conf{three(), three(), four(), {Nodes: 5, Half: 2, Blocks: 6, Voters: 2, Clients: 2, Room: 300}} {
		w := newWorld(t, int64(seed), c)
		for range 1200 {
			w.storm(10, 1, 3)
			if n := w.anyone(); n >= 0 {
				isKept(t, w.nodes[n], w.disks[n], n)
			}
		}
		epochs += w.nodes[w.anyone()].Map().Epoch()
	}
	if epochs < 8 {
		t.Errorf("hardly any map changes: %d", epochs)
	}
}

// P13.3: what the council asks for is kept: a vote is given once in a term.
func TestVoteIsKept(t *testing.T) {
	n, d := begins(t, 2, three())
	ticks(n, 10)
	vote := func(from int) api.Mail { return api.Mail{Kind: api.MailVote, From: from, To: 2, Term: 4} }
	voted := func(to int, ok bool) api.Mail {
		return api.Mail{Kind: api.MailVoted, From: 2, To: to, Term: 4, Ok: ok}
	}
	sends(t, "the first one", n.Hear(vote(1)), voted(1, true))
	d.Crash(0)
	n = opens(t, d, 2)
	sends(t, "another one, behind a crash", n.Hear(vote(0)), voted(0, false))
	sends(t, "the first one, behind a crash", n.Hear(vote(1)), voted(1, true))
}

// P13.3: so are the entries of its log.
func TestLogIsKept(t *testing.T) {
	n, d := begins(t, 2, three())
	l := append1(n, 2, 0, api.Entry{Term: 1}, change(split(1, 4)), change(settle()))
	sends(t, "entries", l, api.Mail{Kind: api.MailAppended, From: 2, To: 1, Term: 1, Ok: true, Index: 3})
	d.Crash(0)
	n = opens(t, d, 2)
	has(t, "behind a crash", n, behind(t, three(), split(1, 4), settle()))
	for _, m := range of(ticks(n, 16), api.MailVote) {
		if m.Index != 3 || m.Past != 1 || m.Term != 2 {
			t.Errorf("it stands with %v", m)
		}
	}
}

// P13.3, P13.4: behind a crash the News are told anew from the base on, and take nothing back: an end of an earlier change doesn't end a later one.
func TestNewsBehindACrash(t *testing.T) {
	n, d := begins(t, 2, three())
	append1(n, 2, 0, api.Entry{Term: 1}, change(split(1, 4)), change(settle()), change(renew(2)))
	want := behind(t, three(), split(1, 4), settle(), renew(2))
	has(t, "ahead of a crash", n, want)
	d.Crash(0)
	n = opens(t, d, 2)
	for i := range 5 {
		n.Hear(api.Mail{Kind: api.MailAppend, From: 1, To: 2, Term: 1, Index: 4, Past: 1, Commit: i})
		has(t, "told anew", n, want)
	}
	append1(n, 2, 4, change(settle()))
	has(t, "its own end", n, behind(t, three(), split(1, 4), settle(), renew(2), settle()))
}

// P13.3: of what a call keeps only the first bytes stay: the map is never ahead of the council's log, from which it follows.
func TestPowerGoesAmidACall(t *testing.T) {
	kept := 0
	for keep := range 400 {
		n, d := begins(t, 0, alone())
		leads(t, n)
		d.Stop(2)
		if n.Wish(split(1, 4)); !n.Down() {
			t.Fatal("it isn't down")
		}
		d.Crash(keep)
		n = opens(t, d, 0)
		leads(t, n)
		open := len(n.Map().Open())
		if _, e := n.Wish(settle()); (e == api.OK) != (open > 0) {
			t.Fatalf("%d bytes stay: %d shards are open, and to end that is error %d", keep, open, e)
		}
		kept += min(open, 1)
	}
	if kept == 0 || kept == 400 {
		t.Errorf("the map is kept %d times", kept)
	}
}

// script lets a node that is alone do much, and is which texts its blocks have: of each the last one that was answered, and one that may have been done. It ends where the node is down.
func script(n *node.Node, seq *int) (told, maybe map[int]string) {
	told, maybe = map[int]string{}, map[int]string{}
	for i := range 30 {
		*seq++
		b := i % 8
		text := "t" + number(*seq)
		maybe[b] = text
		for _, s := range n.Map().Shards() {
			if s.Span.From <= b && b < s.Span.To && len(of(n.Hear(asks(0, s.Id, write(0, *seq, b, text))), api.MailReply)) > 0 {
				told[b] = text
			}
		}
		switch l := n.Map().Shards(); i {
		case 12:
			n.Wish(split(l[0].Id, 3))
		case 18:
			n.Wish(renew(l[0].Id))
		case 24:
			n.Wish(merge(l[0].Id, l[len(l)-1].Id))
		}
		if n.Tick(); n.Down() {
			break
		}
	}
	return told, maybe
}

// P13.3: the power goes at any writing call, and any of what waited stays: nothing is sent then, and what was told stays.
func TestPowerGoes(t *testing.T) {
	calls := 0
	for stop := 0; stop < 400; stop++ {
		n, d := begins(t, 0, alone())
		d.Stop(stop)
		seq := 0
		told, maybe := script(n, &seq)
		if !n.Down() {
			break
		}
		calls++
		if l := append(n.Hear(asks(0, 1, write(0, seq+9, 0, "down"))), ticks(n, 30)...); len(l) > 0 || n.Leads() {
			t.Fatalf("down at call %d, it sends %v", stop, l)
		}
		if l, e := n.Wish(renew(1)); len(l) > 0 || e != api.ErrNone {
			t.Fatalf("down, it wishes: error %d, %v", e, l)
		}
		for _, keep := range []int{0, 1 + stop%40, math.MaxInt} {
			back := d.Clone()
			back.Crash(keep)
			n := opens(t, back, 0)
			if n.Map().Epoch() > 1 {
				leads(t, n)
			}
			ticks(n, 30)
			holds(t, n, told, maybe)
			more, _ := script(n, &seq)
			if n.Down() || len(more) < 8 {
				t.Fatalf("stopped at %d: it is down, or answers hardly anything: %v", stop, more)
			}
		}
	}
	if calls < 60 || calls > 390 {
		t.Errorf("the power went at %d calls", calls)
	}
}

// holds checks that each block has what was told, or what may have been done.
func holds(t *testing.T, n *node.Node, told, maybe map[int]string) {
	t.Helper()
	for b := range 8 {
		s, ok := n.Map().Find(b)
		if !ok {
			t.Fatalf("block %d has no shard", b)
		}
		text, e := n.Store(s.Id).Block(b)
		if e != api.OK || text != told[b] && text != maybe[b] {
			t.Fatalf("block %d is %q, error %d, and not %q nor %q", b, text, e, told[b], maybe[b])
		}
	}
}

// P13.3: the power that has gone is met with the next thing that is to be kept.
func TestPowerHasGone(t *testing.T) {
	n, d := begins(t, 0, three())
	d.Stop(0)
	l := n.Tick()
	if len(l) > 0 || n.Down() {
		t.Fatalf("with nothing to keep it is down, or sends %v", l)
	}
	if l := n.Hear(asks(0, 1, write(0, 1, 0, "a"))); len(l) > 0 || !n.Down() || !d.Off() {
		t.Fatalf("it isn't down, and sends %v", l)
	}
	if l := ticks(n, 6); len(l) > 0 {
		t.Fatalf("down, it sends %v", l)
	}
	if _, e := n.Elect([]int{0, 1}); e != api.ErrNone {
		t.Errorf("Elect: error %d", e)
	}
}

// P13.3: the power goes at a wish, and at an Elect: they tell what went wrong.
func TestPowerGoesAtAWish(t *testing.T) {
	for i := range 2 {
		n, d := begins(t, 0, four())
		leads(t, n)
		d.Stop(0)
		var l []api.Mail
		e := api.OK
		if i == 0 {
			l, e = n.Wish(split(1, 3))
		} else {
			l, e = n.Elect([]int{0, 1})
		}
		if len(l) > 0 || e != api.ErrTorn || !n.Down() {
			t.Errorf("error %d, %v", e, l)
		}
		d.Crash(0)
		has(t, "behind the crash", opens(t, d, 0), atFirst(t, four()))
	}
}

// P13.3: a device that gets full is exchanged: much more is kept one behind the other than it has room for.
func TestExchange(t *testing.T) {
	for _, told := range []int{1, 30, 4000} {
		exchanges(t, told)
	}
}

// exchanges lets a node on a device of 30 sectors write and write, whatever room it is told of.
func exchanges(t *testing.T, told int) {
	t.Helper()
	c := alone()
	c.Room = told
	d, _ := disk.New(30)
	if e := node.Format(d, 0, c); e != api.OK {
		t.Fatalf("Format: error %d", e)
	}
	n := opens(t, d, 0)
	c.Room = 30
	leads(t, n)
	want := store(t, 0, 8)
	seq, written, least := 0, 0, c.Room
	for i := range 60 {
		s := n.Map().Shards()[0].Id
		for range 8 {
			seq++
			x := write(1, seq, seq%8, "text "+number(seq)+strings.Repeat(".", 100))
			sends(t, "a write", n.Hear(asks(0, s, x)), replies(0, s, x))
			want.Apply(x)
			written += 300
			least = min(least, d.Used())
		}
		isKept(t, n, d, 0)
		if _, e := n.Wish(renew(s)); e != api.OK {
			t.Fatalf("renewal %d: error %d", i, e)
		}
		if ticks(n, 3); n.Down() || len(n.Map().Open()) > 0 {
			t.Fatalf("renewal %d: it is down, or doesn't end", i)
		}
		stores(t, "renewed", n, s+1, want)
		if i%7 == 0 {
			n = opens(t, d, 0)
			leads(t, n)
		}
	}
	if written < 5*c.Room*api.Sector || least > c.Room/2 {
		t.Errorf("%d bytes are written, and at least %d sectors taken", written, least)
	}
}

// P13.3: so is one where all that counts takes much of the room: it is exchanged as long as there is room for that.
func TestExchangeOfMuch(t *testing.T) {
	for _, again := range []bool{false, true} {
		c := alone()
		c.Room = 240
		n, d := begins(t, 0, c)
		leads(t, n)
		want := store(t, 0, 8)
		seq := 0
		for i := range 400 {
			s := n.Map().Shards()[0].Id
			seq++
			x := write(1, seq, min(seq-1, 7), "text "+number(seq)+strings.Repeat(".", 20+4000*min(1, 7/seq)))
			sends(t, "a write", n.Hear(asks(0, s, x)), replies(0, s, x))
			want.Apply(x)
			if i%40 == 8 {
				n.Wish(renew(s))
				ticks(n, 3)
			}
			if again && i%40 == 10 {
				n = opens(t, d, 0)
				leads(t, n)
			}
		}
		stores(t, "behind all of it", n, n.Hosts()[0], want)
		isKept(t, n, d, 0)
	}
}

// P13.3: where there is no room for all that counts, the node is down; what it has told stays.
func TestNoRoom(t *testing.T) {
	for _, room := range []int{4, 9, 20, 50, 120} {
		c := alone()
		c.Room = room
		n, d := begins(t, 0, c)
		want := store(t, 0, 8)
		seq := 0
		for seq < 5000 {
			seq++
			x := write(seq%4, seq, seq%8, "text "+number(seq))
			l := n.Hear(asks(0, 1, x))
			if n.Down() {
				if len(l) > 0 {
					t.Fatalf("down, it sends %v", l)
				}
				break
			}
			sends(t, "a write", l, replies(0, 1, x))
			want.Apply(x)
		}
		if !n.Down() || d.Used() < room-room/8-2 {
			t.Fatalf("room %d: behind %d writes %d sectors are taken", room, seq, d.Used())
		}
		if d.Off() {
			t.Error("its power has gone")
		}
		back := d.Clone()
		back.Crash(0)
		last := want.Clone()
		last.Apply(write(seq%4, seq, seq%8, "text "+number(seq)))
		if s := opens(t, back, 0).Store(1); !blocks.Same(s, want) && !blocks.Same(s, last) {
			t.Errorf("room %d: other blocks behind %d writes", room, seq)
		}
	}
}

// P13.3: where an image of all that counts can't be laid, since it has too many bytes, the rest of the room is used.
func TestMoreThanAnImage(t *testing.T) {
	c := api.Conf{Nodes: 1, Blocks: 256, Voters: 1, Clients: 1, Room: 12000}
	n, d := begins(t, 0, c)
	leads(t, n)
	want := fills(t, n, 1, 0)
	stores(t, "a full disk", n, 1, want)
	isKept(t, n, d, 0)
	if _, e := n.Wish(renew(1)); e != api.OK {
		t.Fatalf("error %d", e)
	}
	ticks(n, 4)
	stores(t, "a full disk that began anew", n, 2, want)
	isKept(t, n, d, 0)
	if _, e := n.Wish(split(2, 100)); e != api.OK {
		t.Fatalf("error %d", e)
	}
	ticks(n, 4)
	hosts(t, "a full disk that was split", n, 3, 4)
	isKept(t, n, d, 0)
}

// fills has all of a disk of 256 blocks written to its last byte.
func fills(t *testing.T, n *node.Node, shard, seq int) *blocks.Store {
	t.Helper()
	want := store(t, 0, 256)
	for i := range 16 {
		var texts []string
		for b := range 16 {
			texts = append(texts, strings.Repeat(string(rune('a'+(i+b)%26)), api.BlockSize))
		}
		x := write(0, seq+1+i, 16*i, texts...)
		sends(t, "a great write", n.Hear(asks(0, shard, x)), replies(0, shard, x))
		want.Apply(x)
	}
	return want
}

// P13.3: where a crash comes while the parts of a base are kept, the shard isn't installed, and is later.
func TestCrashWhileInstalling(t *testing.T) {
	c := api.Conf{Nodes: 1, Blocks: 256, Voters: 1, Clients: 1, Room: 12000}
	n, d := begins(t, 0, c)
	leads(t, n)
	want := fills(t, n, 1, 0)
	n.Wish(renew(1))
	missed := 0
	for stop := range 9 {
		x := d.Clone()
		x.Stop(stop)
		n := opens(t, x, 0)
		ticks(n, 2)
		x.Crash(math.MaxInt)
		n = opens(t, x, 0)
		if !slices.Equal(n.Hosts(), []int{1, 2}) {
			missed++
			hosts(t, "not all of the base is kept", n, 1)
		}
		leads(t, n)
		ticks(n, 20)
		hosts(t, "later", n, 2)
		stores(t, "later", n, 2, want)
		isKept(t, n, x, 0)
	}
	if missed < 3 {
		t.Errorf("hardly any crash is in the midst: %d", missed)
	}
}

// P13.3: the council's log doesn't grow for ever, and what stands for it is the map.
func TestManyChanges(t *testing.T) {
	n, d := begins(t, 0, four())
	leads(t, n)
	want := atFirst(t, four())
	for i := range 5000 {
		c := split(want.Shards()[0].Id, 6)
		if len(want.Shards()) == 2 {
			c = merge(want.Shards()[0].Id, want.Shards()[1].Id)
		}
		if _, e := n.Wish(c); e != api.OK || want.Apply(c) != api.OK {
			t.Fatalf("change %d: %v, error %d", i, c, e)
		}
		ends(n, 1, 2)
		want.Apply(settle())
	}
	has(t, "behind many changes", n, want)
	d.Crash(0)
	n = opens(t, d, 0)
	has(t, "behind many changes and a crash", n, want)
	leads(t, n)
	if _, e := n.Wish(renew(want.Shards()[0].Id)); e != api.OK {
		t.Errorf("one more: error %d", e)
	}
	if !atlas.Same(n.Map(), behindMore(t, want, renew(want.Shards()[0].Id))) {
		t.Error("one more: another map")
	}
}

func behindMore(t *testing.T, a *atlas.Atlas, c api.Change) *atlas.Atlas {
	t.Helper()
	a = a.Clone()
	if e := a.Apply(c); e != api.OK {
		t.Fatalf("Apply of %v: error %d", c, e)
	}
	return a
}
