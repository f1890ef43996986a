package node_test

import (
	"slices"
	"strconv"
	"sync/atomic"
	"testing"

	"lamella/api"
	"lamella/blocks"
	"lamella/node"
)

// anyone is a node that is up; -1.
func (w *world) anyone() int {
	var l []int
	for n, x := range w.nodes {
		if x != nil {
			l = append(l, n)
		}
	}
	if len(l) == 0 {
		return -1
	}
	return l[w.d.Intn(len(l))]
}

// anyChange is a change that may be possible by the newest map of a node.
func (w *world) anyChange(n int) api.Change {
	l := w.nodes[n].Map().Shards()
	i := w.d.Intn(len(l))
	s := l[i]
	switch k := w.d.Intn(6); {
	case k == 5:
		return settle()
	case k == 0 && s.Span.To-s.Span.From > 1:
		return api.Change{Kind: api.ChangeSplit, Shard: s.Id, At: s.Span.From + 1 + w.d.Intn(s.Span.To-s.Span.From-1)}
	case k == 1 && i+1 < len(l):
		return api.Change{Kind: api.ChangeMerge, Shard: s.Id, Other: l[i+1].Id}
	case k == 2:
		return api.Change{Kind: api.ChangeReplace, Shard: s.Id, Out: s.Members[w.d.Intn(len(s.Members))], In: w.d.Intn(w.conf.Nodes)}
	}
	return api.Change{Kind: api.ChangeRenew, Shard: s.Id}
}

// storm lets something happen.
func (w *world) storm(loss, crash, changes int) {
	w.t.Helper()
	w.steps++
	n := w.anyone()
	switch k := w.d.Intn(100); {
	case k < crash && n >= 0:
		switch w.d.Intn(3) {
		case 0:
			w.disks[n].Stop(w.d.Intn(4))
		default:
			w.crash(n, w.d.Intn(300)-20)
		}
	case n < 0 || k < 2*crash+2:
		if n = w.d.Intn(w.conf.Nodes); w.nodes[n] == nil {
			w.back(n)
		}
	case k < 2*crash+2+changes:
		l, _ := w.nodes[n].Wish(w.anyChange(n))
		w.does(n, l)
	case k < 2*crash+8+changes:
		if a := w.askers[w.d.Intn(len(w.askers))]; w.d.Intn(30) == 0 {
			a.drop()
		} else if a.deed == nil {
			w.askAny(a.number)
		} else {
			w.mails = append(w.mails, a.tick()...)
		}
	case k < 2*crash+20+changes:
		w.tick(n)
	case len(w.mails) > 0:
		i := w.d.Intn(min(len(w.mails), 40))
		m := w.mails[i]
		r := w.d.Intn(100)
		if r >= loss/2 {
			w.mails = append(w.mails[:i:i], w.mails[i+1:]...)
		}
		if r < loss/2 || r >= loss {
			w.comes(m)
		}
	}
}

// calm lets all come back, and checks that all that was asked for is done, and each change ends.
func (w *world) calm(most int) int {
	w.t.Helper()
	for n, x := range w.nodes {
		w.disks[n].Stop(-1)
		if x == nil {
			w.back(n)
		}
	}
	for i := range most {
		w.round()
		if i > 20 && w.isCalm() {
			return i
		}
	}
	for n, x := range w.nodes {
		w.t.Logf("node %d: %v open %v hosts %v leads %v", n, x.Map().Epoch(), x.Map().Open(), x.Hosts(), x.Leads())
	}
	w.t.Fatalf("no calm comes")
	return 0
}

func (w *world) isCalm() bool {
	for _, a := range w.askers {
		if a.deed != nil {
			return false
		}
	}
	for _, x := range w.nodes {
		if x == nil || len(x.Map().Open()) > 0 || x.Map().Epoch() != w.nodes[0].Map().Epoch() {
			return false
		}
	}
	return true
}

// anyConf is a cluster of any kind.
func (d dice) anyConf() api.Conf {
	c := api.Conf{Nodes: 1 + d.Intn(7), Blocks: 1 + d.Intn(20), Clients: 1 + d.Intn(4), Room: 4000}
	c.Half = d.Intn((c.Nodes-1)/2 + 1)
	c.Voters = 1 + d.Intn(c.Nodes)
	if d.Intn(2) == 0 {
		c.Rules = api.Rules{Hot: d.Intn(20), Cold: d.Intn(5), Long: d.Intn(100), Mute: d.Intn(2) * (10 + d.Intn(50)), Cap: d.Intn(20)}
	}
	return c
}

// elect asks a node for any voters.
func (w *world) elect() {
	w.t.Helper()
	n := w.anyone()
	if n < 0 {
		return
	}
	var voters []int
	for x := range w.conf.Nodes {
		if w.d.Intn(3) > 0 {
			voters = append(voters, x)
		}
	}
	l, _ := w.nodes[n].Elect(voters)
	w.does(n, l)
}

// P1 to P6, P13.11: whatever is lost, doubled and late, whoever crashes, and however the map and the voters change: what was told goes together, and in a calm all is done.
func TestStorms(t *testing.T) {
	var crashes, epochs, done atomic.Int64
	t.Run("all", func(t *testing.T) {
		for i := range 150 {
			t.Run(strconv.Itoa(i), func(t *testing.T) {
				t.Parallel()
				d := newDice(int64(i))
				w := newWorld(t, int64(i), d.anyConf())
				loss, crash, changes, elects := d.Intn(4)*8, d.Intn(3), d.Intn(4), d.Intn(2)
				for range 3000 {
					w.storm(loss, crash, changes)
					if elects > 0 && w.d.Intn(200) == 0 {
						w.elect()
					}
				}
				w.calm(300)
				w.goTogether()
				crashes.Add(int64(w.crashes))
				epochs.Add(int64(w.nodes[0].Map().Epoch()))
				for _, d := range w.deeds {
					done.Add(int64(min(d.ended, 1)))
				}
			})
		}
	})
	if crashes.Load() < 1000 || epochs.Load() < 500 || done.Load() < 3000 {
		t.Errorf("hardly anything happens: %d crashes, %d epochs, %d are done", crashes.Load(), epochs.Load(), done.Load())
	}
}

// P6: the same steps do the same.
func TestAgain(t *testing.T) {
	var runs [2]*world
	for i := range runs {
		runs[i] = newWorld(t, 5, ruled(three(), api.Rules{Hot: 9, Cold: 2, Long: 40, Mute: 30, Cap: 30}))
		for range 3000 {
			runs[i].storm(8, 1, 2)
		}
	}
	if a, b := runs[0], runs[1]; a.steps != b.steps || a.crashes != b.crashes || !slices.EqualFunc(a.mails, b.mails, mailsAlike) || len(a.lives) != len(b.lives) {
		t.Error("they are others")
	}
}

// P4, P13.9a: the map that changes by itself comes to an end, and clients go on meanwhile.
func TestRulesInRounds(t *testing.T) {
	w := newWorld(t, 3, ruled(api.Conf{Nodes: 5, Half: 1, Blocks: 16, Voters: 3, Clients: 4, Room: 4000}, api.Rules{Hot: 8, Cold: 1, Long: 60, Mute: 40, Cap: 40}))
	for i := range 1000 {
		for n := range w.askers {
			w.askAny(n)
		}
		if i == 20 {
			w.crash(1, 0)
		}
		w.round()
	}
	a := w.nodes[0].Map()
	if a.Epoch() < 20 {
		t.Errorf("the epoch is %d", a.Epoch())
	}
	for _, s := range a.Shards() {
		if slices.Contains(s.Members, 1) {
			t.Errorf("a node that is silent is a member of %v", s)
		}
	}
	w.calm(100)
	w.goTogether()
}

// P13.12: a node alone does what its clients ask, one by one, as a store does; and its shards are split, merged and begun anew without a block changing.
func TestAlone(t *testing.T) {
	for seed := range int64(30) {
		d := newDice(seed)
		c := alone()
		c.Blocks = 1 + d.Intn(30)
		n, dev := begins(t, 0, c)
		leads(t, n)
		want := store(t, 0, c.Blocks)
		w := &world{t: t, d: d, conf: c, nodes: []*node.Node{n}}
		seqs := [4]int{}
		for i := range 200 {
			client := d.Intn(4)
			seqs[client]++
			x := d.piece(n, client, seqs[client])
			s, _ := n.Map().Find(x.From)
			reply, _ := want.Apply(x)
			sends(t, "a command", n.Hear(asks(0, s.Id, x)), replies(0, s.Id, x, reply.Data...))
			switch {
			case i%10 == 5:
				n.Wish(w.anyChange(0))
				ticks(n, 3)
				alike(t, n, want)
			case i%50 == 30:
				dev.Crash(0)
				n = opens(t, dev, 0)
				w.nodes[0] = n
				leads(t, n)
				alike(t, n, want)
			}
		}
		if n.Map().Epoch() < 5 {
			t.Errorf("seed %d: epoch %d", seed, n.Map().Epoch())
		}
	}
}

// piece is a command on blocks of one shard.
func (d dice) piece(n *node.Node, client, seq int) api.Cmd {
	l := n.Map().Shards()
	s := l[d.Intn(len(l))].Span
	x := command(1+d.Intn(4), client, seq, s.From+d.Intn(s.To-s.From), 0)
	x.To = min(s.To, x.From+1+d.Intn(6))
	for i := x.From; x.Op == api.OpWrite && i < x.To; i++ {
		x.Data = append(x.Data, "t"+number(d.Intn(1000)))
	}
	return x
}

// alike checks that each block has what a store has, and its marks.
func alike(t *testing.T, n *node.Node, want *blocks.Store) {
	t.Helper()
	var l []*blocks.Store
	for _, s := range n.Map().Shards() {
		l = append(l, n.Store(s.Id))
	}
	if s, e := blocks.Merge(l...); e != api.OK || !blocks.Same(s, want) {
		t.Fatalf("other blocks, of the shards %v, error %d", n.Map().Shards(), e)
	}
}
