package node_test

import (
	"slices"
	"testing"

	"lamella/api"
	"lamella/atlas"
	"lamella/blocks"
	"lamella/disk"
	"lamella/node"
)

// deed is what a client asked for, from which step on, and in which it was done (0: it wasn't).
type deed struct {
	cmd          api.Cmd
	began, ended int
	texts        map[int]string // of a read, what it told of its blocks
}

// asker is a client that asks for one thing after the other, till all is done.
type asker struct {
	number, seq, tries, age int
	atlas                   *atlas.Atlas
	deed                    *deed
	left                    []int
}

// life is what a node has executed of a shard since it began.
type life struct {
	node, shard int
	log         []api.Ran
}

// world is nodes on their devices, clients, and the mails between them.
type world struct {
	t       *testing.T
	d       dice
	conf    api.Conf
	disks   []*disk.Disk
	nodes   []*node.Node // nil: it isn't up
	mails   []api.Mail
	askers  []*asker
	deeds   []*deed
	lives   []*life
	now     map[[2]int]*life // of the nodes that are up, by their shards
	steps   int
	crashes int
	texts   int
}

func newWorld(t *testing.T, seed int64, c api.Conf) *world {
	t.Helper()
	w := &world{t: t, d: newDice(seed), conf: c, nodes: make([]*node.Node, c.Nodes), now: map[[2]int]*life{}}
	for n := range c.Nodes {
		w.disks = append(w.disks, formatted(t, n, c))
		w.back(n)
	}
	for n := range c.Clients {
		w.askers = append(w.askers, &asker{number: n, atlas: atFirst(t, c)})
	}
	return w
}

// back lets a node begin anew.
func (w *world) back(n int) {
	w.t.Helper()
	w.nodes[n] = opens(w.t, w.disks[n], n)
	w.look(n)
}

// look notes what a node has executed, if it is up still.
func (w *world) look(n int) {
	w.t.Helper()
	x := w.nodes[n]
	if x == nil {
		return
	}
	if x.Down() || w.disks[n].Off() {
		w.crash(n, 0)
		return
	}
	for _, s := range x.Hosts() {
		l := w.now[[2]int{n, s}]
		if l == nil {
			l = &life{node: n, shard: s}
			w.now[[2]int{n, s}] = l
			w.lives = append(w.lives, l)
		}
		l.log = append(l.log, x.Since(s, len(l.log))...)
	}
}

func (w *world) crash(n, keep int) {
	w.disks[n].Crash(keep)
	w.nodes[n] = nil
	w.crashes++
	for at := range w.now {
		if at[0] == n {
			delete(w.now, at)
		}
	}
}

// does sends what a node's call answered.
func (w *world) does(n int, l []api.Mail) {
	w.t.Helper()
	w.look(n)
	for _, m := range l {
		if m.From != n || m.To == n || w.nodes[n] == nil {
			w.t.Fatalf("%d sends %v", n, m)
		}
	}
	w.mails = append(w.mails, l...)
	w.mails = w.mails[:min(len(w.mails), 400)]
}

// comes lets a mail come to whom it is for.
func (w *world) comes(m api.Mail) {
	w.t.Helper()
	switch {
	case m.To >= 100:
		w.mails = append(w.mails, w.askers[m.To-100].hear(w, m)...)
	case m.To < w.conf.Nodes && w.nodes[m.To] != nil:
		w.does(m.To, w.nodes[m.To].Hear(m))
	}
}

func (w *world) tick(n int) {
	w.t.Helper()
	if w.nodes[n] != nil {
		w.does(n, w.nodes[n].Tick())
	}
}

// round lets all mails that are under way come, all nodes tick, and all clients.
func (w *world) round() {
	w.t.Helper()
	w.steps++
	l := w.mails
	w.mails = nil
	for _, m := range l {
		w.comes(m)
	}
	for n := range w.nodes {
		w.tick(n)
	}
	for _, a := range w.askers {
		w.mails = append(w.mails, a.tick()...)
	}
}

// ask lets a client that isn't busy ask for something.
func (w *world) ask(n int, c api.Cmd) {
	a := w.askers[n]
	if a.deed != nil {
		return
	}
	a.seq++
	c.Client, c.Seq = n, a.seq
	a.deed = &deed{cmd: c, began: w.steps, texts: map[int]string{}}
	a.left, a.tries, a.age = nil, 0, 0
	for b := c.From; b < c.To; b++ {
		a.left = append(a.left, b)
	}
	w.deeds = append(w.deeds, a.deed)
	w.mails = append(w.mails, a.send()...)
}

// askAny lets a client ask for anything, each text being another one.
func (w *world) askAny(n int) {
	c := api.Cmd{Op: 1 + w.d.Intn(4), From: w.d.Intn(w.conf.Blocks)}
	c.To = min(w.conf.Blocks, c.From+1+w.d.Intn(5))
	if w.d.Intn(3) == 0 {
		c.Op = api.OpWrite
	}
	if c.Op == api.OpWrite {
		for range c.To - c.From {
			w.texts++
			c.Data = append(c.Data, "t"+number(w.texts))
		}
	}
	w.ask(n, c)
}

// send asks for the parts that are left, each of another member with each try.
func (a *asker) send() []api.Mail {
	var l []api.Mail
	c := a.deed.cmd
	for i := 0; i < len(a.left); {
		s, _ := a.atlas.Find(a.left[i])
		from, to := a.left[i], a.left[i]
		for i < len(a.left) && a.left[i] == to && to < s.Span.To {
			i, to = i+1, to+1
		}
		part := api.Cmd{Op: c.Op, Client: c.Client, Seq: c.Seq, From: from, To: to}
		if c.Op == api.OpWrite {
			part.Data = c.Data[from-c.From : to-c.From]
		}
		place := (a.number + a.seq + a.tries) % len(s.Members)
		l = append(l, api.Mail{Kind: api.MailRequest, From: 100 + a.number, To: s.Members[place], Shard: s.Id, Epoch: a.atlas.Epoch(), Inst: api.Inst{Cmd: part}})
	}
	a.tries, a.age = a.tries+1, 0
	return l
}

func (a *asker) tick() []api.Mail {
	if a.age++; a.deed == nil || a.age%5 > 0 {
		return nil
	}
	return a.send()
}

func (a *asker) hear(w *world, m api.Mail) []api.Mail {
	w.t.Helper()
	c := m.Inst.Cmd
	switch {
	case m.Kind == api.MailWrong:
		x, e := atlas.Decode([]byte(m.Text))
		if e != api.OK || x.Epoch() != m.Epoch || len(c.Data) > 0 {
			w.t.Fatalf("%v is wrong", m)
		}
		if x.Epoch() > a.atlas.Epoch() {
			a.atlas, a.tries = x, 0
			if a.deed != nil {
				return a.send()
			}
		}
	case m.Kind != api.MailReply || !m.Ok || c.Client != a.number:
		w.t.Fatalf("%v comes to the client %d", m, a.number)
	case a.deed != nil && c.Seq == a.seq:
		a.done(w, c)
	}
	return nil
}

// done notes what was answered of a part.
func (a *asker) done(w *world, c api.Cmd) {
	w.t.Helper()
	if c.Op == api.OpRead != (len(c.Data) > 0) || len(c.Data) > 0 && len(c.Data) != c.To-c.From {
		w.t.Fatalf("the answer to the client %d is %v", a.number, c)
	}
	for b := c.From; b < c.To; b++ {
		if i := slices.Index(a.left, b); i >= 0 {
			a.left = slices.Delete(a.left, i, i+1)
			if c.Op == api.OpRead {
				a.deed.texts[b] = c.Data[b-c.From]
			}
		}
	}
	if len(a.left) == 0 {
		a.deed.ended = w.steps
		a.deed = nil
	}
}

// drop lets a client give up what it asked for.
func (a *asker) drop() { a.deed = nil }

// put is a write or trim that took effect on a block.
type put struct {
	client, seq int
	text        string
}

// puts is those of a block that a life has executed, in order, with their Refs.
func (l *life) puts(block int) ([]put, []api.Ref) {
	var all []put
	var refs []api.Ref
	for _, x := range l.log {
		c := x.Cmd
		if !x.Reply.Ok || c.Op != api.OpWrite && c.Op != api.OpTrim || block < c.From || block >= c.To {
			continue
		}
		p := put{client: c.Client, seq: c.Seq}
		if c.Op == api.OpWrite {
			p.text = c.Data[block-c.From]
		}
		all, refs = append(all, p), append(refs, x.Ref)
	}
	return all, refs
}

// goTogether checks that all that was told and executed goes together.
func (w *world) goTogether() {
	w.t.Helper()
	for i, a := range w.lives {
		for _, b := range w.lives[i+1:] {
			if a.shard == b.shard {
				w.agree(a, b)
			}
		}
	}
	for b := range w.conf.Blocks {
		w.blockGoesTogether(b)
	}
}

// agree checks that two lives of a shard have the same commands come to the same, and those that meddle in one order.
func (w *world) agree(a, b *life) {
	w.t.Helper()
	at := map[api.Ref]int{}
	for i, x := range b.log {
		at[x.Ref] = i + 1
	}
	if len(at) < len(b.log) {
		w.t.Fatalf("shard %d: something is executed twice by %d", b.shard, b.node)
	}
	for i, x := range a.log {
		if at[x.Ref] == 0 {
			continue
		}
		if y := b.log[at[x.Ref]-1]; !ransAlike(x, y) && x.Cmd.Op != api.OpNone {
			w.t.Fatalf("shard %d: %v at %d, %v at %d", a.shard, x, a.node, y, b.node)
		}
		for _, z := range a.log[:i] {
			if at[z.Ref] > at[x.Ref] && blocks.Meddle(x.Cmd, z.Cmd) {
				w.t.Fatalf("shard %d: %v and %v are executed in two orders, by %d and %d", a.shard, z, x, a.node, b.node)
			}
		}
	}
}

// history is all puts of a block, shard by shard.
func (w *world) history(block int) []put {
	w.t.Helper()
	best := map[int][]put{}
	refs := map[int][]api.Ref{}
	var shards []int
	for _, l := range w.lives {
		p, r := l.puts(block)
		if _, in := best[l.shard]; !in {
			shards = append(shards, l.shard)
			best[l.shard] = nil
		}
		if n := min(len(r), len(refs[l.shard])); !slices.Equal(r[:n], refs[l.shard][:n]) {
			w.t.Fatalf("block %d, shard %d: %v and %v", block, l.shard, r, refs[l.shard])
		}
		if len(p) > len(best[l.shard]) {
			best[l.shard], refs[l.shard] = p, r
		}
	}
	slices.Sort(shards)
	var all []put
	marks := map[int]int{}
	for _, s := range shards {
		for _, p := range best[s] {
			if p.seq > marks[p.client] {
				marks[p.client] = p.seq
				all = append(all, p)
			}
		}
	}
	return all
}

// blockGoesTogether checks that a block's writes stand once, and in their order, and that each read tells what stood there.
func (w *world) blockGoesTogether(block int) {
	w.t.Helper()
	l := w.history(block)
	of := func(p put) *deed {
		for _, d := range w.deeds {
			if d.cmd.Client == p.client && d.cmd.Seq == p.seq {
				return d
			}
		}
		w.t.Fatalf("nobody has asked for %v", p)
		return nil
	}
	began := 0 // the latest beginning of those so far
	for i := range l {
		d := of(l[i])
		if d.ended > 0 && d.ended < began {
			w.t.Fatalf("block %d: %v stands behind what began later", block, l[i])
		}
		began = max(began, d.began)
	}
	isDone := func(d *deed) bool { return d.ended > 0 && d.cmd.From <= block && block < d.cmd.To }
	for _, d := range w.deeds {
		if !isDone(d) {
			continue
		}
		switch d.cmd.Op {
		case api.OpWrite, api.OpTrim:
			n := 0
			for _, p := range l {
				if of(p) == d {
					n++
				}
			}
			if n != 1 {
				w.t.Fatalf("block %d: %v was done, and stands %d times", block, d.cmd, n)
			}
		case api.OpRead:
			w.readGoesTogether(block, d, l, of)
		}
	}
}

// readGoesTogether checks that a read's text stood there some time between its beginning and its end.
func (w *world) readGoesTogether(block int, d *deed, l []put, of func(put) *deed) {
	w.t.Helper()
	least, most := 0, len(l)
	for i, p := range l {
		x := of(p)
		if x.ended > 0 && x.ended < d.began {
			least = i + 1
		}
		if x.began > d.ended {
			most = min(most, i)
		}
	}
	for i := least; i <= most; i++ {
		if i == 0 && d.texts[block] == "" || i > 0 && l[i-1].text == d.texts[block] {
			return
		}
	}
	w.t.Fatalf("block %d: %v tells %q, from %d to %d; puts %v", block, d.cmd, d.texts[block], least, most, l)
}
