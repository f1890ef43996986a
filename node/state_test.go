package node_test

import (
	"math"
	"slices"
	"testing"

	"lamella/api"
	"lamella/node"
)

// fetches is a MailFetch.
func fetches(from, to, shard int, ok bool) api.Mail {
	return api.Mail{Kind: api.MailFetch, From: from, To: to, Shard: shard, Ok: ok}
}

// tells is a MailInstalled.
func tells(from, to, shard int) api.Mail {
	return api.Mail{Kind: api.MailInstalled, From: from, To: to, Shard: shard}
}

// P13.5: which shards are hosted, by their members and by those that they were made of: who was neither knows nothing of them.
func TestHosts(t *testing.T) {
	c := api.Conf{Nodes: 5, Half: 1, Blocks: 12, Voters: 1, Clients: 3, Room: 4000}
	at := behind(t, c, split(1, 4), settle(), replace(2, 0, 3))
	for self := range c.Nodes {
		n, d := begins(t, self, c)
		if self <= 2 {
			hosts(t, "at first", n, 1)
		}
		n.Hear(mapMail(behind(t, c, split(1, 4)), (self+1)%5, self))
		if self <= 2 {
			hosts(t, "as long as they are open", n, 1)
		}
		n.Hear(mapMail(at, (self+1)%5, self))
		hosts(t, "it is gone, and the others wait", n)
		if len(n.Insts(1)) > 0 || n.Store(1) != nil {
			t.Error("it knows something still")
		}
		asked := map[int]bool{}
		for _, m := range of(ticks(n, 3), api.MailFetch) {
			asked[m.Shard] = true
		}
		want := [][]int{{1, 2, 3}, {1, 2, 3, 4}, {1, 2, 3, 4}, {2, 4}, nil}[self] // of a settled shard that waits those that it was made of are asked still
		for shard := range 6 {
			if asked[shard] != slices.Contains(want, shard) {
				t.Errorf("%d asks for %d: %v", self, shard, asked[shard])
			}
		}
		d.Crash(0)
		hosts(t, "behind a crash", opens(t, d, self))
	}
}

// P13.5: a map by which a shard has other blocks, or other members, than it had, has another shard, that waits.
func TestHostsOfAnotherMap(t *testing.T) {
	for _, x := range []api.Change{split(1, 5), replace(1, 2, 3)} {
		n, d := begins(t, 1, four())
		n.Hear(mapMail(behind(t, four(), split(1, 4), settle()), 0, 1))
		n.Hear(state(0, 1, 2, store(t, 0, 4)))
		hosts(t, "one map", n, 2)
		other := behind(t, four(), x, settle())
		if x.Kind == api.ChangeSplit {
			other.Apply(renew(3))
		} else {
			other.Apply(split(2, 4))
			other.Apply(settle())
			other.Apply(merge(3, 4))
		}
		n.Hear(mapMail(other, 0, 1))
		hosts(t, "another map", n)
		d.Crash(0)
		hosts(t, "another map, behind a crash", opens(t, d, 1))
	}
}

// P13.5: what a shard that waits asks for, of whom, and when.
func TestFetch(t *testing.T) {
	c := api.Conf{Nodes: 5, Half: 1, Blocks: 12, Voters: 1, Clients: 3, Room: 4000}
	n, _ := begins(t, 3, c)
	n.Hear(mapMail(behind(t, c, replace(1, 0, 3)), 0, 3))
	for i := 1; i <= 12; i++ {
		l := of(n.Tick(), api.MailFetch)
		if i%3 > 0 {
			sends(t, "a tick between", l)
			continue
		}
		sends(t, "a third tick", l, fetches(3, 1, 2, false), fetches(3, 2, 2, false), fetches(3, 0, 1, true), fetches(3, 1, 1, true), fetches(3, 2, 1, true))
	}
	n.Hear(state(1, 3, 2, store(t, 0, 12)))
	sends(t, "it is installed", of(ticks(n, 6), api.MailFetch))
}

// P13.5: who has a shard installed answers its base, or its store, if that is frozen.
func TestMailFetch(t *testing.T) {
	n, _ := begins(t, 1, three())
	w := write(0, 1, 2, "a")
	sends(t, "the base", n.Hear(fetches(0, 1, 1, false)), state(1, 0, 1, store(t, 0, 12)))
	n.Hear(commit(0, 1, 1, decided(0, 1, w, 1)))
	sends(t, "the base still", n.Hear(fetches(0, 1, 1, false)), state(1, 0, 1, store(t, 0, 12)))
	sends(t, "it isn't frozen", n.Hear(fetches(0, 1, 1, true)))
	n.Hear(commit(0, 1, 1, decided(0, 2, freeze(), 2, api.Ref{Lead: 0, Index: 1})))
	sends(t, "the last state", n.Hear(fetches(2, 1, 1, true)), state(1, 2, 1, store(t, 0, 12, w, freeze())))
	sends(t, "the base of a frozen one", n.Hear(fetches(2, 1, 1, false)), state(1, 2, 1, store(t, 0, 12)))
	for _, m := range []api.Mail{fetches(0, 1, 2, false), fetches(0, 1, 0, true), fetches(1, 1, 1, false), fetches(3, 1, 1, false), fetches(100, 1, 1, false), fetches(-1, 1, 1, false), fetches(0, 2, 1, false), fetches(0, 1, math.MinInt, false)} {
		sends(t, "nobody to answer, or nothing", n.Hear(m))
	}
}

// P13.5: with its base a shard is installed; it is kept.
func TestInstallOfABase(t *testing.T) {
	n, d := begins(t, 2, three())
	n.Hear(mapMail(behind(t, three(), split(1, 4), settle()), 0, 2))
	hosts(t, "they wait", n)
	low, high := store(t, 0, 4, write(0, 1, 2, "a")), store(t, 4, 12, write(1, 1, 5, "b"))
	frozen := low.Clone()
	frozen.Apply(freeze())
	for _, m := range []api.Mail{
		state(0, 2, 3, low), state(0, 2, 2, high), state(0, 2, 2, store(t, 0, 3)), state(0, 2, 2, store(t, 0, 12)), state(0, 2, 2, frozen), state(0, 2, 4, low), state(0, 2, 1, store(t, 0, 12)),
		state(3, 2, 2, low), state(2, 2, 2, low), state(100, 2, 2, low), state(-1, 2, 2, low), state(0, 1, 2, low),
		{Kind: api.MailState, From: 0, To: 2, Shard: 2}, {Kind: api.MailState, From: 0, To: 2, Shard: 2, Text: string(low.Encode()) + "x"},
	} {
		sends(t, "no base", n.Hear(m))
		hosts(t, "no base", n)
	}
	n.Hear(state(0, 2, 2, low))
	hosts(t, "one", n, 2)
	n.Hear(state(1, 2, 3, high))
	for range 2 {
		hosts(t, "both", n, 2, 3)
		stores(t, "both", n, 2, low)
		stores(t, "both", n, 3, high)
		sends(t, "its base", n.Hear(fetches(0, 2, 2, false)), state(2, 0, 2, low))
		d.Crash(0)
		n = opens(t, d, 2)
	}
	n.Hear(state(0, 2, 2, store(t, 0, 4)))
	stores(t, "another base, too late", n, 2, low)
}

// P13.5: one that is no member of a shard can't tell its base.
func TestBaseOfNoMember(t *testing.T) {
	n, _ := begins(t, 2, four())
	n.Hear(mapMail(behind(t, four(), replace(1, 0, 3)), 0, 2))
	n.Hear(state(0, 2, 2, store(t, 0, 12)))
	hosts(t, "of no member", n, 1)
	n.Hear(state(3, 2, 2, store(t, 0, 12)))
	hosts(t, "of a member", n, 1, 2)
}

// P13.5: with the last states of all that it was made of, merged and cut, a shard is installed.
func TestInstallOfLastStates(t *testing.T) {
	c := api.Conf{Nodes: 4, Half: 1, Blocks: 12, Voters: 1, Clients: 3, Room: 4000}
	at := behind(t, c, split(1, 4), settle(), merge(2, 3), settle(), split(4, 6))
	last := store(t, 0, 12, write(0, 3, 2, "a", "b"), write(1, 2, 5, "c", "d"), freeze())
	low, _ := last.Part(api.Span{From: 0, To: 6})
	high, _ := last.Part(api.Span{From: 6, To: 12})
	n, _ := begins(t, 1, c)
	n.Hear(mapMail(at, 0, 1))
	thawed, _ := last.Part(last.Span())
	for _, m := range []api.Mail{state(0, 1, 1, last), state(0, 1, 5, last), state(3, 1, 4, last), state(0, 1, 4, store(t, 0, 6, freeze())), state(1, 1, 4, last), state(0, 2, 4, last), state(0, 1, 9, thawed)} {
		n.Hear(m)
		hosts(t, "no last state", n)
	}
	n.Hear(state(2, 1, 4, last))
	hosts(t, "both parts", n, 5, 6)
	stores(t, "one part", n, 5, low)
	stores(t, "the other part", n, 6, high)
	if s, _ := n.Store(6).Mark(6, 1); s != 2 {
		t.Errorf("the mark is %d", s)
	}
}

// P13.5: a merged shard needs the last states of both.
func TestInstallOfAMerge(t *testing.T) {
	at := behind(t, three(), split(1, 4), settle(), merge(2, 3))
	low, high := store(t, 0, 4, write(0, 1, 2, "a"), freeze()), store(t, 4, 12, write(1, 1, 5, "b"), freeze())
	want := store(t, 0, 12, write(0, 1, 2, "a"), write(1, 1, 5, "b"))
	for i := range 4 {
		n, d := begins(t, 1, three())
		n.Hear(mapMail(behind(t, three(), split(1, 4), settle()), 0, 1))
		n.Hear(state(0, 1, 2, store(t, 0, 4)))
		if i < 2 {
			n.Hear(state(0, 1, 3, store(t, 4, 12)))
		}
		n.Hear(mapMail(at, 0, 1))
		l := []api.Mail{state(0, 1, 2, low), state(2, 1, 3, high)}
		if i%2 == 1 {
			slices.Reverse(l)
		}
		n.Hear(l[0])
		if slices.Contains(n.Hosts(), 4) {
			t.Fatal("it is installed with one last state")
		}
		n.Hear(l[1])
		stores(t, "merged", n, 4, want)
		isKept(t, n, d, 1)
	}
}

// P13.5: its own last state counts; one of them may be its own, and the other one another node's.
func TestOwnLastState(t *testing.T) {
	n, _ := begins(t, 1, three())
	n.Hear(mapMail(behind(t, three(), split(1, 4), settle()), 0, 1))
	n.Hear(state(0, 1, 2, store(t, 0, 4)))
	n.Hear(state(0, 1, 3, store(t, 4, 12)))
	n.Hear(mapMail(behind(t, three(), split(1, 4), settle(), merge(2, 3)), 0, 1))
	n.Hear(commit(0, 1, 2, decided(0, 1, write(0, 1, 2, "a"), 1)))
	n.Hear(commit(0, 1, 2, decided(0, 2, freeze(), 2, api.Ref{Lead: 0, Index: 1})))
	hosts(t, "one is frozen", n, 2, 3)
	n.Hear(state(2, 1, 3, store(t, 4, 12, write(1, 1, 5, "b"), freeze())))
	hosts(t, "the other one's state is known", n, 2, 3, 4)
	stores(t, "merged", n, 4, store(t, 0, 12, write(0, 1, 2, "a"), write(1, 1, 5, "b")))
	m, _ := begins(t, 1, three())
	m.Hear(commit(0, 1, 1, decided(0, 1, write(0, 1, 2, "a"), 1)))
	m.Hear(commit(0, 1, 1, decided(0, 2, freeze(), 2, api.Ref{Lead: 0, Index: 1})))
	hosts(t, "frozen ahead of the map", m, 1)
	m.Hear(mapMail(behind(t, three(), renew(1)), 0, 1))
	hosts(t, "then the map comes", m, 1, 2)
	stores(t, "begun anew", m, 2, store(t, 0, 12, write(0, 1, 2, "a")))
}

// P13.5: last states that were heard aren't kept, but asked for again.
func TestLastStatesBehindACrash(t *testing.T) {
	n, d := begins(t, 3, four())
	at := behind(t, four(), split(1, 4), settle(), replace(2, 0, 3), settle(), replace(3, 0, 3), settle(), merge(4, 5))
	n.Hear(mapMail(at, 0, 3))
	n.Hear(state(1, 3, 4, store(t, 0, 4, freeze())))
	d.Crash(0)
	n = opens(t, d, 3)
	n.Hear(state(1, 3, 5, store(t, 4, 12, freeze())))
	hosts(t, "the other one isn't known any more", n)
	if l := of(ticks(n, 3), api.MailFetch); !slices.ContainsFunc(l, func(m api.Mail) bool { return mailsAlike(m, fetches(3, 1, 4, true)) }) {
		t.Errorf("it asks for %v", l)
	}
	n.Hear(state(1, 3, 4, store(t, 0, 4, freeze())))
	hosts(t, "now it is", n, 6)
}

// P13.5: a shard that one is made of, and that waits itself, is asked for, and installed, too.
func TestPastThatWaits(t *testing.T) {
	n, _ := begins(t, 1, three())
	n.Hear(mapMail(behind(t, three(), renew(1), settle(), renew(2)), 0, 1))
	sends(t, "both are asked for", of(ticks(n, 3), api.MailFetch),
		fetches(1, 0, 3, false), fetches(1, 2, 3, false), fetches(1, 0, 2, true), fetches(1, 2, 2, true), fetches(1, 0, 2, false), fetches(1, 2, 2, false))
	m, _ := begins(t, 1, three())
	m.Hear(mapMail(behind(t, three(), renew(1), settle()), 0, 1))
	m.Hear(mapMail(n.Map(), 0, 1))
	sends(t, "both are asked for, as the map tells now", of(ticks(m, 3), api.MailFetch),
		fetches(1, 0, 3, false), fetches(1, 2, 3, false), fetches(1, 0, 2, true), fetches(1, 2, 2, true), fetches(1, 0, 2, false), fetches(1, 2, 2, false))
	n.Hear(state(0, 1, 2, store(t, 0, 12, write(0, 1, 0, "a"))))
	hosts(t, "the past one", n, 2)
	n.Hear(commit(0, 1, 2, decided(0, 1, freeze(), 1)))
	hosts(t, "it is frozen", n, 2, 3)
	stores(t, "begun anew", n, 3, store(t, 0, 12, write(0, 1, 0, "a")))
	n.Hear(mapMail(behind(t, three(), renew(1), settle(), renew(2), settle()), 0, 1))
	hosts(t, "settled", n, 3)
}

// P13.5: with each third tick all others are told of the installed shards that are open.
func TestInstalledTicks(t *testing.T) {
	n, _ := begins(t, 1, four())
	sends(t, "nothing is open", of(ticks(n, 9), api.MailInstalled))
	n.Hear(mapMail(behind(t, four(), split(1, 4)), 0, 1))
	sends(t, "none is installed", of(ticks(n, 9), api.MailInstalled))
	n.Hear(state(0, 1, 3, store(t, 4, 12)))
	for i := 1; i <= 9; i++ {
		l := of(n.Tick(), api.MailInstalled)
		if i%3 > 0 {
			sends(t, "a tick between", l)
			continue
		}
		sends(t, "a third tick", l, tells(1, 0, 3), tells(1, 2, 3), tells(1, 3, 3))
	}
	n.Hear(mapMail(behind(t, four(), split(1, 4), settle()), 0, 1))
	sends(t, "it is settled", of(ticks(n, 9), api.MailInstalled))
}

// settled: has the leader offered the end of the change? Who is the only voter has it agreed on at once.
func settled(n *node.Node) bool { return len(n.Map().Open()) == 0 }

// P13.5: the leader ends a change when it has heard of a majority of the members of each open shard.
func TestSettle(t *testing.T) {
	c := api.Conf{Nodes: 7, Half: 2, Blocks: 12, Voters: 1, Clients: 3, Room: 4000}
	n, _ := begins(t, 0, c)
	leads(t, n)
	wishes(t, "a split", n, split(1, 4), api.OK)
	for i, m := range []api.Mail{tells(1, 0, 2), tells(2, 0, 2), tells(3, 0, 2), tells(1, 0, 3), tells(1, 0, 3), tells(6, 0, 3), tells(5, 0, 3), tells(2, 1, 3), tells(7, 0, 3), tells(-1, 0, 3), tells(0, 0, 3), tells(100, 0, 3), tells(4, 0, 4), tells(4, 0, 1), tells(4, 0, 3)} {
		n.Hear(m)
		if n.Tick(); settled(n) {
			t.Fatalf("the change ends behind mail %d", i)
		}
	}
	n.Hear(tells(2, 0, 3))
	if !settled(n) {
		t.Error("the change doesn't end")
	}
	has(t, "settled", n, behind(t, c, split(1, 4), settle()))
}

// P13.5: the leader itself is included, if it is a member.
func TestSettleWithItself(t *testing.T) {
	n, _ := begins(t, 0, four())
	leads(t, n)
	wishes(t, "a renewal", n, renew(1), api.OK)
	n.Hear(tells(1, 0, 2))
	if n.Tick(); settled(n) {
		t.Fatal("one of three is enough")
	}
	n.Hear(state(1, 0, 2, store(t, 0, 12)))
	if n.Tick(); !settled(n) {
		t.Error("two of three aren't enough")
	}
	wishes(t, "one without it", n, replace(2, 0, 3), api.OK)
	n.Hear(commit(1, 0, 2, decided(1, 1, freeze(), 1)))
	n.Hear(tells(1, 0, 3))
	if n.Tick(); settled(n) {
		t.Error("it isn't a member any more")
	}
	n.Hear(tells(3, 0, 3))
	if n.Tick(); !settled(n) {
		t.Error("two of three aren't enough")
	}
}

// P13.5: who doesn't lead ends nothing; what it has heard counts, when it leads later.
func TestSettleByANewLeader(t *testing.T) {
	n, _ := begins(t, 0, three())
	n.Hear(api.Mail{Kind: api.MailAppend, From: 1, To: 0, Term: 1, Entries: []api.Entry{{Term: 1}, change(renew(1))}, Commit: 2})
	n.Hear(tells(1, 0, 2))
	n.Hear(tells(2, 0, 2))
	l := ticks(n, 10)
	if len(of(l, api.MailAppend)) > 0 {
		t.Fatalf("it sends %v", l)
	}
	n.Hear(api.Mail{Kind: api.MailVoted, From: 1, To: 0, Term: 2, Ok: true})
	l = n.Tick()
	for _, m := range of(l, api.MailAppend) {
		for _, x := range m.Entries {
			if x.Kind == 1 {
				t.Fatalf("ahead of its first entry's being told it offers %v", x)
			}
		}
	}
	n.Hear(api.Mail{Kind: api.MailAppended, From: 1, To: 0, Term: 2, Ok: true, Index: 3})
	n.Tick()
	n.Hear(api.Mail{Kind: api.MailAppended, From: 1, To: 0, Term: 2, Ok: true, Index: 4})
	has(t, "it leads", n, behind(t, three(), renew(1), settle()))
}

// P13.5: what was heard ahead of the change's being known counts, too; of shards that are gone nothing does.
func TestSettleByWhatWasHeard(t *testing.T) {
	n, _ := begins(t, 0, four())
	for _, shard := range []int{1, 2, 3, 5} {
		n.Hear(tells(1, 0, shard))
		n.Hear(tells(2, 0, shard))
	}
	leads(t, n)
	wishes(t, "a split", n, split(1, 4), api.OK)
	n.Tick()
	has(t, "both are installed", n, behind(t, four(), split(1, 4), settle()))
	wishes(t, "a renewal", n, renew(2), api.OK)
	n.Tick()
	has(t, "nobody has it installed", n, behind(t, four(), split(1, 4), settle(), renew(2)))
	n.Hear(tells(1, 0, 4))
	n.Hear(tells(2, 0, 4))
	wishes(t, "another renewal", n, renew(3), api.OK)
	n.Tick()
	has(t, "that one is installed", n, behind(t, four(), split(1, 4), settle(), renew(2), settle(), renew(3), settle()))
}

// P13.5: what a leader hasn't been told of yet may have opened other shards: no end that is meant for the last change comes behind them.
func TestSettleOfAnotherChange(t *testing.T) {
	n, _ := begins(t, 0, three())
	n.Hear(api.Mail{Kind: api.MailAppend, From: 1, To: 0, Term: 1, Entries: []api.Entry{{Term: 1}, change(renew(1)), change(settle()), change(renew(2))}, Commit: 2})
	ticks(n, 10)
	n.Hear(api.Mail{Kind: api.MailVoted, From: 1, To: 0, Term: 2, Ok: true})
	if !n.Leads() {
		t.Fatal("it doesn't lead")
	}
	n.Hear(tells(1, 0, 2))
	n.Hear(tells(2, 0, 2))
	ticks(n, 5)
	n.Hear(api.Mail{Kind: api.MailAppended, From: 1, To: 0, Term: 2, Ok: true, Index: 9})
	n.Hear(api.Mail{Kind: api.MailAppended, From: 1, To: 0, Term: 2, Ok: true, Index: 5})
	ticks(n, 5)
	n.Hear(api.Mail{Kind: api.MailAppended, From: 1, To: 0, Term: 2, Ok: true, Index: 6})
	has(t, "nobody has the next ones", n, behind(t, three(), renew(1), settle(), renew(2)))
}

// freezes is how many times a node has proposed that a shard freezes.
func freezes(n *node.Node, self int) int {
	times := 0
	for _, s := range n.Hosts() {
		for _, x := range n.Insts(s) {
			if x.Cmd.Op == api.OpFreeze && x.Ref.Lead == self {
				times++
			}
		}
	}
	return times
}

// frozenAt is with which ticks it does so.
func frozenAt(n *node.Node, self, most int) []int {
	var l []int
	for i := 1; i <= most; i++ {
		was := freezes(n, self)
		if n.Tick(); freezes(n, self) > was {
			l = append(l, i)
		}
	}
	return l
}

// P13.6: with which ticks each member proposes to freeze a shard that is closing.
func TestClosing(t *testing.T) {
	c := api.Conf{Nodes: 7, Half: 2, Blocks: 12, Voters: 1, Clients: 3, Room: 4000}
	for self := range 5 {
		for _, ahead := range []int{0, 1, 5} {
			n, _ := begins(t, self, c)
			if l := frozenAt(n, self, ahead); len(l) > 0 {
				t.Fatalf("it isn't closing: %v", l)
			}
			n.Hear(mapMail(behind(t, c, renew(1)), 6, self))
			want := []int{1 + 6*self, 13 + 6*self, 25 + 6*self}
			if l := frozenAt(n, self, 36+6*self); !slices.Equal(l, want) {
				t.Errorf("%d proposes with the ticks %v and not %v", self, l, want)
			}
		}
	}
	n, _ := begins(t, 5, c)
	n.Hear(mapMail(behind(t, c, renew(1)), 6, 5))
	if l := frozenAt(n, 5, 60); len(l) > 0 {
		t.Errorf("who is no member proposes with the ticks %v", l)
	}
}

// P13.6: it begins anew with each change, and behind a crash; a frozen one, one that waits, and one that is gone are left.
func TestClosingEnds(t *testing.T) {
	n, d := begins(t, 1, three())
	n.Hear(mapMail(behind(t, three(), renew(1)), 0, 1))
	if l := frozenAt(n, 1, 6); len(l) > 0 {
		t.Fatalf("too early: %v", l)
	}
	d.Crash(0)
	n = opens(t, d, 1)
	if l := frozenAt(n, 1, 18); !slices.Equal(l, []int{7}) {
		t.Fatalf("behind a crash with the ticks %v", l)
	}
	n.Hear(commit(0, 1, 1, decided(0, 1, freeze(), 1)))
	if l := frozenAt(n, 1, 40); len(l) > 0 {
		t.Fatalf("a frozen one with the ticks %v", l)
	}
	n.Hear(mapMail(behind(t, three(), renew(1), settle()), 0, 1))
	hosts(t, "settled", n, 2)
	if l := frozenAt(n, 1, 40); len(l) > 0 {
		t.Fatalf("nothing is closing: %v", l)
	}
	n.Hear(mapMail(behind(t, three(), renew(1), settle(), renew(2)), 0, 1))
	if l := frozenAt(n, 1, 18); !slices.Equal(l, []int{7}) {
		t.Fatalf("another one with the ticks %v", l)
	}
	w, _ := begins(t, 1, three())
	w.Hear(mapMail(behind(t, three(), renew(1), settle(), renew(2)), 0, 1))
	if l := frozenAt(w, 1, 40); len(l) > 0 {
		t.Fatalf("one that waits with the ticks %v", l)
	}
	w.Hear(state(0, 1, 2, store(t, 0, 12)))
	if l := frozenAt(w, 1, 12); !slices.Equal(l, []int{3}) {
		t.Fatalf("it doesn't wait any more: the ticks %v, of which 40 have gone by", l)
	}
}
