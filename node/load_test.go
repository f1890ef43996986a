package node_test

import (
	"math"
	"slices"
	"testing"

	"lamella/api"
	"lamella/node"
)

// ruled is a cluster with rules.
func ruled(c api.Conf, r api.Rules) api.Conf {
	c.Rules = r
	return c
}

// load is a MailLoad.
func load(from, to, shard, commands, insts, mid int) api.Mail {
	return api.Mail{Kind: api.MailLoad, From: from, To: to, Shard: shard, Index: commands, Past: insts, Commit: mid}
}

// P13.9a: with each sixteenth tick the leader is told what was executed since then: not what does nothing, freezes, or was refused.
func TestLoadTicks(t *testing.T) {
	c := ruled(three(), api.Rules{Hot: 100})
	n, _ := begins(t, 1, c)
	n.Hear(mapMail(behind(t, c, split(1, 4), settle()), 0, 1))
	n.Hear(state(0, 1, 2, store(t, 0, 4)))
	n.Hear(state(0, 1, 3, store(t, 4, 12)))
	heartbeat := api.Mail{Kind: api.MailAppend, From: 2, To: 1, Term: 1}
	tell := func(want ...api.Mail) {
		t.Helper()
		for i := 1; i <= 16; i++ {
			n.Hear(heartbeat)
			l := of(n.Tick(), api.MailLoad)
			if i < 16 {
				sends(t, "a tick between", l)
				continue
			}
			sends(t, "a sixteenth tick", l, want...)
		}
	}
	tell(load(1, 2, 2, 0, 0, 0), load(1, 2, 3, 0, 0, 4))
	for i, x := range []api.Cmd{write(0, 1, 5, "a"), read(1, 1, 5, 9), {}, read(1, 2, 8, 9), command(api.OpFlush, 1, 3, 8, 9), write(1, 4, 2, "not its blocks")} {
		n.Hear(commit(0, 1, 3, decided(0, i+1, x, i+1)))
	}
	tell(load(1, 2, 2, 0, 0, 0), load(1, 2, 3, 4, 6, 7))
	tell(load(1, 2, 2, 0, 0, 0), load(1, 2, 3, 0, 6, 4))
	n.Hear(commit(0, 1, 3, decided(0, 7, write(0, 9, 11, "a"), 7)))
	n.Hear(commit(0, 1, 3, decided(0, 8, freeze(), 8, api.Ref{Index: 7})))
	n.Hear(commit(0, 1, 3, decided(0, 9, write(0, 10, 5, "a"), 9, api.Ref{Index: 8})))
	tell(load(1, 2, 2, 0, 0, 0), load(1, 2, 3, 1, 9, 11))
}

// P13.9a: without rules nothing is told; without a leader it is told later; behind a crash what is executed again doesn't count.
func TestLoadsThatAreNotTold(t *testing.T) {
	w := commit(0, 1, 1, decided(0, 1, write(0, 1, 5, "a"), 1))
	heartbeat := api.Mail{Kind: api.MailAppend, From: 2, To: 1, Term: 1}
	n, _ := begins(t, 1, three())
	n.Hear(w)
	for range 40 {
		n.Hear(heartbeat)
		sends(t, "without rules", of(n.Tick(), api.MailLoad))
	}
	n, d := begins(t, 1, ruled(three(), api.Rules{Cap: 1}))
	n.Hear(w)
	sends(t, "without a leader", of(ticks(n, 17), api.MailLoad))
	m := opens(t, d, 1)
	for i := 18; i <= 32; i++ {
		n.Hear(heartbeat)
		if l := of(n.Tick(), api.MailLoad); i == 32 {
			sends(t, "later", l, load(1, 2, 1, 1, 1, 5))
		}
	}
	for i := 1; i <= 16; i++ {
		m.Hear(heartbeat)
		if l := of(m.Tick(), api.MailLoad); i == 16 {
			sends(t, "behind a crash", l, load(1, 2, 1, 0, 1, 0))
		}
	}
}

// changedAt is behind which of so many ticks the map has changed; 0, if it hasn't.
func changedAt(n *node.Node, most int, each func()) int {
	epoch := n.Map().Epoch()
	for i := 1; i <= most; i++ {
		each()
		if n.Tick(); n.Map().Epoch() > epoch {
			return i
		}
	}
	return 0
}

func nothing() {}

// P13.9a: what a leader that has the shard itself was told, and has itself: the one with most commands, and the most instances.
func TestDecideByLoads(t *testing.T) {
	c := ruled(four(), api.Rules{Hot: 10, Long: 50, Cap: 9})
	for _, x := range []struct {
		what string
		told []api.Mail
		want []api.Change
	}{
		{"nothing", nil, nil},
		{"too little", []api.Mail{load(1, 0, 1, 9, 49, 5)}, nil},
		{"hot", []api.Mail{load(1, 0, 1, 10, 0, 5)}, []api.Change{split(1, 5)}},
		{"of two the hotter one", []api.Mail{load(1, 0, 1, 11, 0, 5), load(2, 0, 1, 30, 0, 7), load(2, 0, 1, 12, 0, 3)}, []api.Change{split(1, 7)}},
		{"they aren't added", []api.Mail{load(1, 0, 1, 9, 0, 5), load(2, 0, 1, 9, 0, 5)}, nil},
		{"long", []api.Mail{load(1, 0, 1, 30, 50, 5)}, []api.Change{renew(1)}},
		{"long by another one", []api.Mail{load(1, 0, 1, 30, 0, 5), load(2, 0, 1, 0, 50, 5)}, []api.Change{renew(1)}},
		{"long by another one ahead", []api.Mail{load(2, 0, 1, 0, 50, 5), load(1, 0, 1, 30, 0, 5)}, []api.Change{renew(1)}},
		{"another shard", []api.Mail{load(1, 0, 2, 30, 60, 5)}, nil},
		{"of nobody", []api.Mail{load(4, 0, 1, 30, 60, 5), load(0, 0, 1, 30, 60, 5), load(100, 0, 1, 30, 60, 5), load(1, 1, 1, 30, 60, 5)}, nil},
		{"numbers of any kind", []api.Mail{load(1, 0, math.MinInt, math.MaxInt, math.MaxInt, math.MinInt), load(1, 0, 1, math.MinInt, math.MinInt, math.MaxInt)}, nil},
	} {
		n, _ := begins(t, 0, c)
		ticks(n, 15)
		for _, m := range x.told {
			n.Hear(m)
		}
		n.Tick()
		has(t, x.what, n, behind(t, c, x.want...))
		ticks(n, 20)
		has(t, x.what+", later", n, behind(t, c, x.want...))
	}
}

// P13.9a: what the leader itself has executed.
func TestDecideByItself(t *testing.T) {
	c := ruled(alone(), api.Rules{Hot: 6, Cap: 2})
	n, _ := begins(t, 0, c)
	for i := range 6 {
		n.Hear(asks(0, 1, write(0, i+1, i, "a")))
		if i == 4 {
			ticks(n, 16)
			has(t, "five", n, atFirst(t, c))
		}
	}
	ticks(n, 16)
	has(t, "one since", n, atFirst(t, c))
	for i := range 6 {
		n.Hear(asks(0, 1, write(0, i+9, i, "a")))
	}
	ticks(n, 15)
	has(t, "ahead of the sixteenth tick", n, atFirst(t, c))
	n.Tick()
	has(t, "six", n, behind(t, c, split(1, 2)))
	for i := range 30 {
		n.Hear(asks(0, 2, write(0, i+20, 0, "a")))
		n.Hear(asks(0, 3, write(0, i+60, 7, "a")))
	}
	ticks(n, 20)
	has(t, "the Cap is reached", n, behind(t, c, split(1, 2), settle()))
}

// P13.9a: only who leads wishes; loads count since its last sixteenth tick alone.
func TestDecideByWhom(t *testing.T) {
	c := ruled(three(), api.Rules{Hot: 10, Cap: 9})
	n, _ := begins(t, 1, c)
	for range 40 {
		n.Hear(api.Mail{Kind: api.MailAppend, From: 2, To: 1, Term: 1})
		n.Hear(load(2, 1, 1, 30, 0, 5))
		if l := of(n.Tick(), api.MailAppend, api.MailChange); len(l) > 0 {
			t.Fatalf("who doesn't lead sends %v", l)
		}
	}
	has(t, "who doesn't lead", n, atFirst(t, c))
	m, _ := begins(t, 0, ruled(four(), c.Rules))
	m.Hear(load(1, 0, 1, 30, 0, 5))
	if i := changedAt(m, 15, nothing); i > 0 {
		t.Fatalf("it wishes with tick %d", i)
	}
	m.Tick()
	has(t, "it leads with the tenth", m, behind(t, c, split(1, 5)))
	o, _ := begins(t, 0, ruled(four(), c.Rules))
	ticks(o, 12)
	o.Hear(load(1, 0, 1, 9, 0, 5))
	ticks(o, 4)
	o.Hear(load(1, 0, 1, 9, 0, 5))
	if i := changedAt(o, 40, nothing); i > 0 {
		t.Errorf("what was told for the last one counts: tick %d", i)
	}
}

// P13.9a: what was told for a sixteenth tick with which nothing could be decided doesn't count later.
func TestDecideByWhatIsNew(t *testing.T) {
	n, _ := begins(t, 0, ruled(four(), api.Rules{Hot: 10, Cap: 9}))
	leads(t, n)
	wishes(t, "a renewal", n, renew(1), api.OK)
	n.Hear(load(1, 0, 2, 30, 0, 5))
	ticks(n, 6)
	ends(n, 1, 2)
	has(t, "its end", n, behind(t, four(), renew(1), settle()))
	if i := changedAt(n, 40, nothing); i > 0 {
		t.Errorf("it wishes with tick %d", i)
	}
}

// P13.9a: it is decided by the map of the council's News, not by a newer one.
func TestDecideByTheNews(t *testing.T) {
	c := ruled(three(), api.Rules{Hot: 10, Cap: 9})
	n, _ := begins(t, 0, c)
	n.Hear(mapMail(behind(t, c, renew(1), settle()), 1, 0))
	elected(t, n)
	n.Hear(load(1, 0, 1, 30, 0, 5))
	n.Hear(load(1, 0, 2, 40, 0, 6))
	l := of(ticks(n, 6), api.MailAppend)
	if !slices.ContainsFunc(l, func(m api.Mail) bool { return slices.Contains(m.Entries, change(split(1, 5))) }) {
		t.Errorf("it sends %v", l)
	}
}

// P13.9a: a member of which nothing was heard for Mute ticks is replaced by one that was heard of, and not in the first Mute ticks.
func TestDecideOfTheSilent(t *testing.T) {
	c := ruled(api.Conf{Nodes: 5, Half: 1, Blocks: 12, Voters: 1, Clients: 1, Room: 400}, api.Rules{Mute: 20, Cap: 3})
	n, _ := begins(t, 0, c)
	from := func(l ...int) func() {
		return func() {
			for _, node := range l {
				n.Hear(api.Mail{From: node})
			}
		}
	}
	if i := changedAt(n, 24, from(1, 4)); i > 0 {
		t.Fatalf("in its first ticks it wishes, with tick %d", i)
	}
	if i := changedAt(n, 60, from(1, 4)); i != 8 {
		t.Fatalf("it wishes with the tick %d and not with the 8th of these", i)
	}
	has(t, "2 is silent", n, behind(t, c, replace(1, 2, 4)))
	ends(n, 1, 4)
	has(t, "settled", n, behind(t, c, replace(1, 2, 4), settle()))
	if i := changedAt(n, 64, from(1, 2, 3, 4)); i > 0 {
		t.Fatalf("nobody is silent, and it wishes with tick %d", i)
	}
	// With the tick 128 it is 20 ticks ago that 4 was heard of, and 19 that 1 and 3 were.
	for tick := 97; tick <= 128; tick++ {
		n.Tick()
		switch tick {
		case 108:
			from(4)()
		case 109:
			from(1, 3)()
		}
		if epoch := n.Map().Epoch(); epoch > 2 != (tick == 128) {
			t.Fatalf("tick %d: epoch %d", tick, epoch)
		}
	}
	has(t, "4 is silent", n, behind(t, c, replace(1, 2, 4), settle(), replace(2, 4, 3)))
}

// P13.9a: where its first Mute ticks end.
func TestDecideBehindMute(t *testing.T) {
	for _, x := range []struct{ mute, want int }{{0, 16}, {15, 16}, {16, 32}, {17, 32}, {31, 32}, {32, 48}} {
		n, _ := begins(t, 0, ruled(four(), api.Rules{Hot: 10, Mute: x.mute, Cap: 9}))
		all := func() {
			n.Hear(load(1, 0, 1, 30, 0, 5))
			n.Hear(api.Mail{From: 2})
		}
		if i := changedAt(n, 100, all); i != x.want {
			t.Errorf("Mute %d: it wishes with tick %d and not %d", x.mute, i, x.want)
		}
	}
}

// P13.9a: a replacement by no node of the cluster isn't wished.
func TestDecideWithinTheCluster(t *testing.T) {
	n, _ := begins(t, 0, ruled(three3(), api.Rules{Mute: 10, Cap: 9}))
	each := func() {
		for node := 1; node < 8; node++ {
			if node != 2 {
				n.Hear(api.Mail{From: node})
			}
		}
	}
	if i := changedAt(n, 100, each); i > 0 {
		t.Errorf("it wishes with tick %d: %v", i, n.Map().Shards())
	}
}

// three3 is three nodes of which the first one is the only voter.
func three3() api.Conf {
	c := three()
	c.Voters = 1
	return c
}
