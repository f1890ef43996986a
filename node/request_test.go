package node_test

import (
	"math"
	"slices"
	"strings"
	"testing"

	"lamella/api"
	"lamella/node"
)

// Example 1 of the chapter.
func TestExample(t *testing.T) {
	n, _ := begins(t, 0, alone())
	w := write(0, 1, 3, "a")
	sends(t, "a write", n.Hear(asks(0, 1, w)), replies(0, 1, w))
	r := read(0, 2, 3, 4)
	sends(t, "a read", n.Hear(asks(0, 1, r)), replies(0, 1, r, "a"))
}

// P13.7: what each command is answered with: the command without Data, of a read with what was read.
func TestReplies(t *testing.T) {
	n, _ := begins(t, 0, alone())
	for _, x := range []struct {
		c     api.Cmd
		texts []string
	}{
		{write(1, 1, 0, "a", "b", ""), nil}, {read(2, 1, 0, 4), []string{"a", "b", "", ""}}, {command(api.OpTrim, 3, 1, 1, 2), nil}, {command(api.OpFlush, 3, 2, 0, 8), nil},
		{read(0, 5, 0, 2), []string{"a", ""}}, {write(1, 1, 0, "x", "y", "z"), nil}, {write(1, api.MaxSeq, 7, strings.Repeat("x", api.BlockSize)), nil}, {read(1, api.MaxSeq, 7, 8), []string{strings.Repeat("x", api.BlockSize)}},
	} {
		sends(t, "a command", n.Hear(asks(0, 1, x.c)), replies(0, 1, x.c, x.texts...))
	}
	if l := n.Log(1); len(l) != 8 || len(n.Insts(1)) != 8 {
		t.Errorf("%d are executed", len(l))
	}
}

// P13.7: any other request of a client's command is answered with the map.
func TestWrongs(t *testing.T) {
	n, _ := begins(t, 1, four())
	at := behind(t, four(), split(1, 4), settle(), renew(3))
	n.Hear(mapMail(at, 0, 1))
	n.Hear(state(0, 1, 2, store(t, 0, 4)))
	n.Hear(state(0, 1, 3, store(t, 4, 12)))
	w := write(0, 1, 1, "a", "b")
	from := func(place int, m api.Mail) api.Mail {
		m.From = place
		return m
	}
	for what, m := range map[string]api.Mail{
		"it waits": asks(1, 4, write(0, 1, 5, "a")), "it is closing": asks(1, 3, write(0, 1, 5, "a")), "it is gone": asks(1, 1, w), "there is none": asks(1, 9, w),
		"not all blocks": asks(1, 2, write(0, 1, 3, "a", "b")), "other blocks": asks(1, 2, write(0, 1, 5, "a")), "of another client": from(101, asks(1, 2, w)), "of none": from(104, asks(1, 2, w)),
		"of a node": from(0, asks(1, 2, w)), "of nobody": from(-1, asks(1, 2, w)), "of far away": from(math.MinInt, asks(1, 2, w)), "a read elsewhere": asks(1, 2, read(0, 1, 4, 5)),
	} {
		sends(t, what, n.Hear(m), wrong(1, m.From, m.Inst.Cmd, at))
	}
	if len(n.Insts(2))+len(n.Insts(3)) > 0 {
		t.Error("something is proposed")
	}
	o, _ := begins(t, 1, four())
	o.Hear(mapMail(behind(t, four(), split(1, 4), settle()), 0, 1))
	o.Hear(state(0, 1, 2, store(t, 0, 4)))
	o.Hear(state(0, 1, 3, store(t, 4, 12)))
	for _, x := range []struct {
		shard int
		c     api.Cmd
	}{{3, read(0, 1, 3, 5)}, {3, read(0, 1, 0, 4)}, {2, read(0, 1, 3, 5)}, {2, read(0, 1, 4, 5)}, {3, read(0, 1, 11, 13)}} {
		sends(t, "not all of its blocks", o.Hear(asks(1, x.shard, x.c)), wrong(1, 100, x.c, o.Map()))
	}
	sends(t, "its first and last block", of(o.Hear(asks(1, 3, read(0, 1, 4, 12))), api.MailWrong))
	c, _ := begins(t, 3, four())
	sends(t, "no member", c.Hear(asks(3, 1, w)), wrong(3, 100, w, atFirst(t, four())))
}

// P13.7: what isn't a client's command, or is for another one, is nothing.
func TestRequestsThatAreNone(t *testing.T) {
	n, _ := begins(t, 0, alone())
	w := write(0, 1, 0, "a")
	other := asks(1, 1, w)
	for _, m := range []api.Mail{
		other, asks(0, 1, api.Cmd{}), asks(0, 1, freeze()), asks(0, 1, write(0, 0, 0, "a")), asks(0, 1, write(4, 1, 0, "a")), asks(0, 1, write(-1, 1, 0, "a")), asks(0, 1, write(0, 1, 0, "a\x00")), asks(0, 1, write(0, 1, -1, "a")),
		asks(0, 1, read(0, 1, 0, 17)), asks(0, 1, read(0, 1, 4, 4)), asks(0, 1, read(0, 1, 4, 3)), asks(0, 1, command(9, 0, 1, 0, 1)), asks(0, 1, command(api.OpWrite, 0, 1, 0, 1)), asks(0, 9, freeze()), asks(0, 9, read(0, 1, 255, 257)),
	} {
		sends(t, "no request", n.Hear(m))
	}
	if len(n.Insts(1)) > 0 {
		t.Error("something is proposed")
	}
}

// first is what the node 0 of three sends when it proposes a command.
func first(n *node.Node, index int, c api.Cmd, seq int, deps ...api.Ref) []api.Mail {
	b := api.Ballot{}
	x := api.Inst{Ref: api.Ref{Index: index}, Ballot: b, Vote: b, Status: api.Seen, Same: true, Cmd: c, Seq: seq, Deps: deps}
	var l []api.Mail
	for _, to := range []int{1, 2} {
		l = append(l, api.Mail{Kind: api.MailPre, To: to, Shard: 1, Inst: x})
	}
	return l
}

// preOk is the node 1's answer to the last MailPre of a list.
func preOk(l []api.Mail) api.Mail {
	m := l[len(l)-1]
	m.Kind, m.From, m.To, m.Ok = api.MailPreOk, 1, 0, true
	return m
}

// P13.7: where others are to agree, a request waits till its instance is executed; the same one asked again waits with it, and is answered once.
func TestRequestsWait(t *testing.T) {
	n, _ := begins(t, 0, three())
	w := write(0, 1, 2, "a")
	l := n.Hear(asks(0, 1, w))
	sends(t, "a request", l, first(n, 1, w, 1)...)
	sends(t, "the same one", n.Hear(asks(0, 1, w)))
	r := read(1, 1, 2, 3)
	k := n.Hear(asks(0, 1, r))
	sends(t, "another one", k, first(n, 2, r, 2, api.Ref{Index: 1})...)
	others := []api.Cmd{
		write(0, 1, 2, "b"), write(0, 2, 2, "a"), write(0, 1, 3, "a"), command(api.OpTrim, 0, 1, 2, 3), command(api.OpFlush, 1, 1, 2, 3),
		read(2, 1, 2, 3), read(1, 1, 2, 4), read(1, 1, 1, 3), read(1, 2, 2, 3),
	}
	for _, other := range others {
		if l := n.Hear(asks(0, 1, other)); len(of(l, api.MailPre)) != 2 || !cmdsAlike(l[0].Inst.Cmd, other) {
			t.Fatalf("one that isn't the same: %v", l)
		}
	}
	sends(t, "decided, but not executed", of(n.Hear(preOk(k)), api.MailReply, api.MailWrong))
	sends(t, "decided, and executed", of(n.Hear(preOk(l)), api.MailReply, api.MailWrong), replies(0, 1, w), replies(0, 1, r, "a"))
	l = n.Hear(asks(0, 1, w))
	if len(of(l, api.MailPre)) != 2 || l[0].Inst.Ref.Index != 3+len(others) {
		t.Errorf("executed, and asked again, it sends %v", l)
	}
}

// P13.7: nobody waits behind a crash; who asks again waits for the instance that there is.
func TestRequestsBehindACrash(t *testing.T) {
	n, d := begins(t, 0, three())
	w := write(0, 1, 2, "a")
	l := n.Hear(asks(0, 1, w))
	d.Crash(0)
	n = opens(t, d, 0)
	x := l[0].Inst
	x.Status = api.Done
	m := opens(t, d, 0)
	sends(t, "nobody waits", n.Hear(commit(1, 0, 1, x)))
	stores(t, "nobody waits", n, 1, store(t, 0, 12, w))
	sends(t, "the same one", m.Hear(asks(0, 1, w)))
	sends(t, "it is executed", m.Hear(commit(1, 0, 1, x)), replies(0, 1, w))
	n = opens(t, d, 0)
	if l := n.Hear(asks(0, 1, w)); len(of(l, api.MailPre)) != 2 || l[0].Inst.Ref.Index != 2 {
		t.Errorf("executed ahead of a crash, and asked again, it sends %v", l)
	}
}

// P13.7, rule 4: who waits for a command is answered, though the mail that brought it was changed meanwhile.
func TestRequestsAreCopied(t *testing.T) {
	n, _ := begins(t, 0, three())
	texts := []string{"a"}
	l := n.Hear(asks(0, 1, write(0, 1, 2, texts...)))
	texts[0] = "spoilt"
	sends(t, "executed", of(n.Hear(preOk(l)), api.MailReply, api.MailWrong), replies(0, 1, write(0, 1, 2, "a")))
}

// P13.7: what another node proposed is nobody's here, also behind a crash.
func TestRequestsOfOthers(t *testing.T) {
	n, d := begins(t, 0, three())
	w := write(0, 1, 2, "a")
	x := decided(1, 1, w, 1)
	x.Status = api.Seen
	n.Hear(api.Mail{Kind: api.MailPre, From: 1, To: 0, Shard: 1, Inst: x})
	m := opens(t, d.Clone(), 0)
	sends(t, "another node proposed it, too", n.Hear(asks(0, 1, w)), first(n, 1, w, 2, x.Ref)...)
	sends(t, "behind a crash", m.Hear(asks(0, 1, w)), first(m, 1, w, 2, x.Ref)...)
}

// P13.7: what is executed behind a freeze isn't done.
func TestRequestsBehindAFreeze(t *testing.T) {
	n, _ := begins(t, 0, three())
	f := decided(1, 1, freeze(), 1)
	w, r := write(0, 1, 2, "a"), read(1, 1, 2, 3)
	for i, c := range []api.Cmd{w, r} {
		x := n.Hear(asks(0, 1, c))[0].Inst
		x.Status, x.Seq = api.Done, 9+i
		x.Deps = append(x.Deps, f.Ref)
		sends(t, "ahead of the freeze", n.Hear(commit(1, 0, 1, x)))
	}
	at := atFirst(t, three())
	sends(t, "behind the freeze", n.Hear(commit(1, 0, 1, f)), wrong(0, 100, w, at), wrong(0, 101, r, at))
	sends(t, "it is frozen", n.Hear(asks(0, 1, r)), wrong(0, 101, r, at))
	stores(t, "frozen", n, 1, store(t, 0, 12, freeze()))
}

// P13.7: where others have decided that an instance does nothing, its command isn't done.
func TestRequestsThatComeToNothing(t *testing.T) {
	n, _ := begins(t, 0, three())
	w := write(0, 1, 2, "a")
	n.Hear(asks(0, 1, w))
	x := decided(0, 1, api.Cmd{}, 0)
	x.Deps = []api.Ref{{Lead: 1, Index: 1}}
	sends(t, "decided, not executed", n.Hear(commit(1, 0, 1, x)))
	if l := n.Hear(asks(0, 1, w)); len(of(l, api.MailPre)) != 2 || l[0].Inst.Ref.Index != 2 {
		t.Fatalf("none of its instances is the command's, and it sends %v", l)
	}
	sends(t, "executed", n.Hear(commit(1, 0, 1, decided(1, 1, api.Cmd{}, 0))), wrong(0, 100, w, atFirst(t, three())))
	stores(t, "nothing is done", n, 1, store(t, 0, 12))
}

// P13.7: where no more can be proposed, nothing is answered.
func TestRequestsBeyondTheTable(t *testing.T) {
	c := alone()
	c.Room = 1 << 16
	n, _ := begins(t, 0, c)
	last := decided(0, 1<<30, api.Cmd{}, 0)
	w, _ := begins(t, 0, three())
	sends(t, "the last Index", w.Hear(commit(1, 0, 1, last)))
	sends(t, "beyond the last Index", w.Hear(asks(0, 1, write(0, 1, 2, "a"))))
	if len(n.Insts(1)) > 0 || len(w.Insts(1)) != 1 {
		t.Error("something is proposed")
	}
}

// P13.7, P13.8: a client is answered by a tick, too.
func TestReplyOfATick(t *testing.T) {
	n, _ := begins(t, 0, api.Conf{Nodes: 5, Half: 2, Blocks: 4, Voters: 1, Clients: 1, Room: 400})
	w := write(0, 1, 2, "a")
	l := n.Hear(asks(0, 1, w))
	x := l[0].Inst
	for _, from := range []int{1, 2} {
		n.Hear(api.Mail{Kind: api.MailPreOk, From: from, Shard: 1, Ok: true, Inst: x})
	}
	var taken []api.Mail
	for range 4 {
		taken = of(n.Tick(), api.MailTake)
	}
	if len(taken) != 4 {
		t.Fatalf("a majority has answered, and it sends %v", taken)
	}
	y := taken[0].Inst
	n.Hear(api.Mail{Kind: api.MailTakeOk, From: 1, Shard: 1, Inst: y})
	sends(t, "a majority has it", of(n.Hear(api.Mail{Kind: api.MailTakeOk, From: 2, Shard: 1, Inst: y}), api.MailReply), replies(0, 1, w))
}

// P13.8: what is executed, and needs what isn't known, is asked for by the replica's ticks.
func TestWants(t *testing.T) {
	n, d := begins(t, 0, three())
	x := decided(1, 1, write(0, 1, 2, "a"), 7, api.Ref{Lead: 2, Index: 3})
	n.Hear(commit(1, 0, 1, x))
	for i := range 2 {
		asked := of(ticks(n, 20), api.MailAsk)
		if !slices.ContainsFunc(asked, func(m api.Mail) bool { return m.Inst.Ref == api.Ref{Lead: 2, Index: 3} }) {
			t.Fatalf("%d: it asks for %v", i, asked)
		}
		d.Crash(0)
		n = opens(t, d, 0)
	}
	n.Hear(commit(1, 0, 1, decided(2, 3, write(1, 1, 2, "b"), 1)))
	stores(t, "now it is known", n, 1, store(t, 0, 12, write(1, 1, 2, "b"), write(0, 1, 2, "a")))
	if l := n.Log(1); len(l) != 2 || l[1].Ref != x.Ref || len(n.Since(1, 1)) != 1 {
		t.Errorf("executed: %v", l)
	}
}
