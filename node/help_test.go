package node_test

import (
	"math/rand"
	"slices"
	"strconv"
	"testing"

	"lamella/api"
	"lamella/atlas"
	"lamella/blocks"
	"lamella/disk"
	"lamella/node"
)

// dice draws numbers, the same ones for the same seed.
type dice struct{ *rand.Rand }

func newDice(seed int64) dice { return dice{rand.New(rand.NewSource(seed))} }

func number(n int) string { return strconv.Itoa(n) }

// alone is a cluster of one node.
func alone() api.Conf {
	return api.Conf{Nodes: 1, Blocks: 8, Voters: 1, Clients: 4, Room: 4000}
}

// three is a cluster of three nodes, all of them members and voters.
func three() api.Conf {
	return api.Conf{Nodes: 3, Half: 1, Blocks: 12, Voters: 3, Clients: 3, Room: 4000}
}

// four is one of four nodes, of which three are members, and the first one is the only voter.
func four() api.Conf {
	return api.Conf{Nodes: 4, Half: 1, Blocks: 12, Voters: 1, Clients: 3, Room: 4000}
}

// formatted is a device with a node as it is at first.
func formatted(t *testing.T, self int, c api.Conf) *disk.Disk {
	t.Helper()
	d, e := disk.New(c.Room)
	if e != api.OK {
		t.Fatalf("disk.New: error %d", e)
	}
	if e := node.Format(d, self, c); e != api.OK {
		t.Fatalf("Format: error %d", e)
	}
	return d
}

func opens(t *testing.T, d *disk.Disk, self int) *node.Node {
	t.Helper()
	n, e := node.Open(d, self)
	if e != api.OK || n == nil || n.Down() {
		t.Fatalf("Open: %v, error %d", n, e)
	}
	return n
}

// begins is a node as it is at first, and its device.
func begins(t *testing.T, self int, c api.Conf) (*node.Node, *disk.Disk) {
	t.Helper()
	d := formatted(t, self, c)
	return opens(t, d, self), d
}

// ticks lets a node tick so often, and is all that it sends.
func ticks(n *node.Node, times int) []api.Mail {
	var l []api.Mail
	for range times {
		l = append(l, n.Tick()...)
	}
	return l
}

// leads has a node that is the only voter lead.
func leads(t *testing.T, n *node.Node) {
	t.Helper()
	for range 40 {
		if n.Leads() {
			return
		}
		n.Tick()
	}
	t.Fatal("it doesn't lead")
}

// elected has the node 0 lead by the vote of the node 1, in the term 1, and has its first entry agreed on.
func elected(t *testing.T, n *node.Node) {
	t.Helper()
	ticks(n, 10)
	n.Hear(api.Mail{Kind: api.MailVoted, From: 1, To: 0, Term: 1, Ok: true})
	if !n.Leads() {
		t.Fatal("it doesn't lead")
	}
	appended(n, 1)
}

// appended has the node 1 tell the leader 0 of the term 1 that it has all up to an entry.
func appended(n *node.Node, index int) []api.Mail {
	return n.Hear(api.Mail{Kind: api.MailAppended, From: 1, To: 0, Term: 1, Ok: true, Index: index})
}

// append1 has a follower hear of entries of the leader 1 in the term 1, all of them agreed on.
func append1(n *node.Node, to, ahead int, l ...api.Entry) []api.Mail {
	past := min(ahead, 1)
	return n.Hear(api.Mail{Kind: api.MailAppend, From: 1, To: to, Term: 1, Index: ahead, Past: past, Entries: l, Commit: ahead + len(l)})
}

// change is an entry of the term 1 that tells a change.
func change(c api.Change) api.Entry { return api.Entry{Term: 1, Kind: 1, Text: atlas.Lay(c)} }

func split(shard, at int) api.Change {
	return api.Change{Kind: api.ChangeSplit, Shard: shard, At: at}
}

func merge(shard, other int) api.Change {
	return api.Change{Kind: api.ChangeMerge, Shard: shard, Other: other}
}

func renew(shard int) api.Change { return api.Change{Kind: api.ChangeRenew, Shard: shard} }

func replace(shard, out, in int) api.Change {
	return api.Change{Kind: api.ChangeReplace, Shard: shard, Out: out, In: in}
}

func settle() api.Change { return api.Change{Kind: api.ChangeSettle} }

// atFirst is the map at first.
func atFirst(t *testing.T, c api.Conf) *atlas.Atlas {
	t.Helper()
	var members []int
	for n := range 2*c.Half + 1 {
		members = append(members, n)
	}
	a, e := atlas.New(c.Blocks, members)
	if e != api.OK {
		t.Fatalf("atlas.New: error %d", e)
	}
	return a
}

// behind is the map at first behind changes.
func behind(t *testing.T, c api.Conf, l ...api.Change) *atlas.Atlas {
	t.Helper()
	a := atFirst(t, c)
	for _, x := range l {
		if e := a.Apply(x); e != api.OK {
			t.Fatalf("Apply of %v: error %d", x, e)
		}
	}
	return a
}

// mapMail is a MailMap.
func mapMail(a *atlas.Atlas, from, to int) api.Mail {
	return api.Mail{Kind: api.MailMap, From: from, To: to, Epoch: a.Epoch(), Text: string(a.Encode())}
}

// has checks that a node has this map.
func has(t *testing.T, what string, n *node.Node, a *atlas.Atlas) {
	t.Helper()
	if x := n.Map(); !atlas.Same(x, a) {
		t.Fatalf("%s: the map is of epoch %d, with %v, open %v", what, x.Epoch(), x.Shards(), x.Open())
	}
}

// hosts checks which shards a node has installed.
func hosts(t *testing.T, what string, n *node.Node, want ...int) {
	t.Helper()
	if l := n.Hosts(); !slices.Equal(l, want) {
		t.Fatalf("%s: it has %v installed, and not %v", what, l, want)
	}
}

// of is the mails of a kind.
func of(l []api.Mail, kinds ...int) []api.Mail {
	var r []api.Mail
	for _, m := range l {
		if slices.Contains(kinds, m.Kind) {
			r = append(r, m)
		}
	}
	return r
}

// sends checks mails, in any order.
func sends(t *testing.T, what string, got []api.Mail, want ...api.Mail) {
	t.Helper()
	left := slices.Clone(got)
	for _, m := range want {
		i := slices.IndexFunc(left, func(x api.Mail) bool { return mailsAlike(x, m) })
		if i < 0 {
			t.Fatalf("%s: %v isn't sent, but %v", what, m, got)
		}
		left = slices.Delete(left, i, i+1)
	}
	if len(left) > 0 {
		t.Fatalf("%s: %v is sent, too", what, left)
	}
}

func mailsAlike(a, b api.Mail) bool {
	x, y := a.Inst, b.Inst
	instsAlike := x.Ref == y.Ref && x.Ballot == y.Ballot && x.Vote == y.Vote && x.Status == y.Status && x.Same == y.Same &&
		cmdsAlike(x.Cmd, y.Cmd) && x.Seq == y.Seq && slices.Equal(x.Deps, y.Deps)
	return instsAlike && a.Kind == b.Kind && a.From == b.From && a.To == b.To && a.Shard == b.Shard && a.Ok == b.Ok &&
		a.Term == b.Term && a.Index == b.Index && a.Past == b.Past && a.Commit == b.Commit && a.Epoch == b.Epoch &&
		slices.Equal(a.Entries, b.Entries) && a.Text == b.Text
}

func instsAlike(a, b api.Inst) bool { return mailsAlike(api.Mail{Inst: a}, api.Mail{Inst: b}) }

func cmdsAlike(a, b api.Cmd) bool {
	return a.Op == b.Op && a.Client == b.Client && a.Seq == b.Seq && a.From == b.From && a.To == b.To && slices.Equal(a.Data, b.Data)
}

func ransAlike(a, b api.Ran) bool {
	return a.Ref == b.Ref && cmdsAlike(a.Cmd, b.Cmd) && a.Reply.Ok == b.Reply.Ok && slices.Equal(a.Reply.Data, b.Reply.Data)
}

// write is a client's write from a block on.
func write(client, seq, from int, texts ...string) api.Cmd {
	return api.Cmd{Op: api.OpWrite, Client: client, Seq: seq, From: from, To: from + len(texts), Data: texts}
}

func command(op, client, seq, from, to int) api.Cmd {
	return api.Cmd{Op: op, Client: client, Seq: seq, From: from, To: to}
}

func read(client, seq, from, to int) api.Cmd { return command(api.OpRead, client, seq, from, to) }

// asks is a client's request.
func asks(to, shard int, c api.Cmd) api.Mail {
	return api.Mail{Kind: api.MailRequest, From: 100 + c.Client, To: to, Shard: shard, Inst: api.Inst{Cmd: c}}
}

// replies is the answer to a request that was done: texts are what was read.
func replies(from, shard int, c api.Cmd, texts ...string) api.Mail {
	c.Data = texts
	return api.Mail{Kind: api.MailReply, From: from, To: 100 + c.Client, Shard: shard, Ok: true, Inst: api.Inst{Cmd: c}}
}

// wrong is the answer to a request that isn't done here.
func wrong(from, to int, c api.Cmd, a *atlas.Atlas) api.Mail {
	c.Data = nil
	return api.Mail{Kind: api.MailWrong, From: from, To: to, Epoch: a.Epoch(), Text: string(a.Encode()), Inst: api.Inst{Cmd: c}}
}

// store is the blocks of a span behind commands.
func store(t *testing.T, from, to int, l ...api.Cmd) *blocks.Store {
	t.Helper()
	s, e := blocks.New(api.Span{From: from, To: to})
	if e != api.OK {
		t.Fatalf("blocks.New: error %d", e)
	}
	for _, c := range l {
		if _, e := s.Apply(c); e != api.OK {
			t.Fatalf("Apply of %v: error %d", c, e)
		}
	}
	return s
}

func freeze() api.Cmd { return api.Cmd{Op: api.OpFreeze} }

// state is a MailState.
func state(from, to, shard int, s *blocks.Store) api.Mail {
	return api.Mail{Kind: api.MailState, From: from, To: to, Shard: shard, Text: string(s.Encode())}
}

// stores checks what an installed shard has.
func stores(t *testing.T, what string, n *node.Node, shard int, want *blocks.Store) {
	t.Helper()
	if s := n.Store(shard); !blocks.Same(s, want) {
		t.Fatalf("%s: shard %d has other blocks: %v", what, shard, s)
	}
}

// decided is a command as it was decided.
func decided(lead, index int, c api.Cmd, seq int, deps ...api.Ref) api.Inst {
	b := api.Ballot{Node: lead}
	return api.Inst{Ref: api.Ref{Lead: lead, Index: index}, Ballot: b, Vote: b, Status: api.Done, Cmd: c, Seq: seq, Deps: deps}
}

// commit is a mail that tells a decided instance.
func commit(from, to, shard int, x api.Inst) api.Mail {
	return api.Mail{Kind: api.MailCommit, From: from, To: to, Shard: shard, Inst: x}
}

// ends has the leader 0 hear of these nodes that they have all open shards installed, which are enough: so it ends the change, and is told so at once where it is the only voter.
func ends(n *node.Node, by ...int) {
	for _, shard := range n.Map().Open() {
		for _, from := range by {
			n.Hear(tells(from, 0, shard))
		}
	}
}

// mayEnd has the leader 0, of which the node 1 has told that it has these shards installed, install them, too, by the last state of the shard 1: two of three may end the change that made them, but it waits for its next tick.
func mayEnd(t *testing.T, n *node.Node, shards ...int) {
	t.Helper()
	for _, shard := range shards {
		n.Hear(tells(1, 0, shard))
	}
	n.Hear(state(1, 0, 1, store(t, 0, 12, freeze())))
	for _, shard := range shards {
		if n.Store(shard) == nil {
			t.Fatalf("the shard %d isn't installed", shard)
		}
	}
}
