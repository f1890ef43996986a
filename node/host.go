package node

import (
	"maps"
	"slices"

	"lamella/accord"
	"lamella/api"
	"lamella/atlas"
	"lamella/blocks"
	"lamella/engine"
	"lamella/warden"
)

// host is a node's part in a shard.
type host struct {
	origin  api.Origin
	past    []api.Origin // those that it was made of, as far as the map tells
	closing bool
	clock   int // its ticks since it is closing

	// Of one that is installed.
	base    *blocks.Store // nil, as long as it waits for its blocks
	replica *accord.Replica
	engine  *engine.Engine
	decided []api.Inst // those that aren't executed yet
	wants   []api.Ref  // what these need
	own     []order    // the node's own instances that aren't executed yet
	meter   warden.Meter
}

// order is an instance that the node proposed, and whether the client of its command waits for it.
type order struct {
	ref   api.Ref
	cmd   api.Cmd
	waits bool
}

// hosted is the shards that a node hosts by a map: those that it is a member of, and those that open ones are made of, which may stand there twice.
func hosted(a *atlas.Atlas, self int) []*host {
	var l []*host
	for _, s := range a.Shards() {
		if has(s.Members, self) {
			l = append(l, &host{origin: api.Origin{Id: s.Id, Span: s.Span, Members: s.Members}, past: s.Past})
		}
	}
	for _, id := range a.Open() {
		s, _ := a.Get(id)
		for _, o := range s.Past {
			if has(o.Members, self) {
				l = append(l, &host{origin: o, closing: true})
			}
		}
	}
	return l
}

// sameOrigin: is it the same shard? Numbers aren't given twice, but a map of another node's is what it is.
func sameOrigin(a, b api.Origin) bool {
	return a.Id == b.Id && a.Span == b.Span && slices.Equal(a.Members, b.Members)
}

// rehost hosts the shards that the newest map says, and forgets the others.
func (n *Node) rehost() {
	had := n.hosts
	n.hosts = map[int]*host{}
	for _, h := range hosted(n.atlas, n.self) {
		if old, in := had[h.origin.Id]; in && sameOrigin(old.origin, h.origin) {
			old.past, old.closing = h.past, h.closing
			h = old
		}
		n.hosts[h.origin.Id] = h
	}
	n.forget()
}

// forget lets go what was told for shards that don't wait for it any more.
func (n *Node) forget() {
	maps.DeleteFunc(n.lasts, func(id int, _ *blocks.Store) bool { return !n.awaits(id) })
	maps.DeleteFunc(n.installed, func(id int, _ [api.MaxNodes]bool) bool { return !n.mayEnd(id) })
}

// awaits: does a shard wait for the last state of that one?
func (n *Node) awaits(id int) bool {
	for _, h := range n.hosts {
		isIt := func(o api.Origin) bool { return o.Id == id }
		if h.base == nil && slices.ContainsFunc(h.past, isIt) {
			return true
		}
	}
	return false
}

// all is the hosted shards, rising.
func (n *Node) all() []*host {
	var l []*host
	for _, id := range slices.Sorted(maps.Keys(n.hosts)) {
		l = append(l, n.hosts[id])
	}
	return l
}

// here is the installed ones, rising.
func (n *Node) here() []*host {
	if n == nil {
		return nil
	}
	return slices.DeleteFunc(n.all(), func(h *host) bool { return h.base == nil })
}

// host is the installed shard of that number; nil.
func (n *Node) host(id int) *host {
	if n == nil {
		return nil
	}
	h, in := n.hosts[id]
	if !in || h.base == nil {
		return nil
	}
	return h
}

// engineOf is an installed shard's engine; nil.
func (n *Node) engineOf(id int) *engine.Engine {
	if h := n.host(id); h != nil {
		return h.engine
	}
	return nil
}

// begin has a shard installed on its base, with the instances that were kept of it; false, and nothing, if that may not be.
func (n *Node) begin(h *host, base *blocks.Store, l []api.Inst) bool {
	r, e := accord.New(n.self, h.origin.Id, h.origin.Members, l)
	if e != api.OK {
		return false
	}
	eng, e := engine.New(base)
	if e != api.OK {
		return false
	}
	h.base, h.replica, h.engine = base, r, eng
	for _, x := range l {
		if x.Ref.Lead == n.self {
			h.own = append(h.own, order{ref: x.Ref, cmd: x.Cmd})
		}
		if x.Status == api.Done {
			h.decided = append(h.decided, x)
		}
	}
	n.execute(h)
	h.meter.Clear()
	return true
}

// installAny installs a shard whose blocks are known now; false, if there is none.
func (n *Node) installAny() bool {
	for _, h := range n.all() {
		if h.base == nil && n.install(h, n.made(h)) {
			return true
		}
	}
	return false
}

// made is the blocks of a shard, made of the last states of those that it was made of; nil, if these aren't all known.
func (n *Node) made(h *host) *blocks.Store {
	var l []*blocks.Store
	for _, o := range h.past {
		l = append(l, n.last(o.Id))
	}
	all, _ := blocks.Merge(l...)
	s, _ := all.Part(h.origin.Span)
	return s
}

// last is the last state of a shard; nil, if it isn't known.
func (n *Node) last(id int) *blocks.Store {
	if e := n.engineOf(id); e.Frozen() {
		return e.Store()
	}
	return n.lasts[id]
}

// install begins a shard on its base, and keeps that; false, and nothing, if it can't be one.
func (n *Node) install(h *host, base *blocks.Store) bool {
	if base == nil || base.Span() != h.origin.Span || !n.begin(h, base, nil) {
		return false
	}
	n.recordBase(h.origin.Id, base)
	n.forget()
	return true
}

// obey does what a shard's replica asks for, and executes what is decided by it.
func (n *Node) obey(h *host, out api.Out) {
	was := len(h.decided)
	for _, x := range out.Saves {
		n.recordInst(h.origin.Id, x)
		if x.Status == api.Done {
			h.decided = append(h.decided, x)
		}
	}
	n.asked.mails = append(n.asked.mails, out.Mails...)
	if len(h.decided) > was {
		n.execute(h)
	}
}

// execute executes what is decided, and can be, and answers the clients that wait for it.
func (n *Node) execute(h *host) {
	ran, wants := h.engine.Advance(h.decided)
	h.wants = wants
	for _, x := range ran {
		if x.Reply.Ok && isClients(x.Cmd) {
			h.meter.Note(api.Span{From: x.Cmd.From, To: x.Cmd.To})
		}
		isIt := func(o order) bool { return o.ref == x.Ref }
		if i := slices.IndexFunc(h.own, isIt); i >= 0 {
			n.answer(h, h.own[i], x)
			h.own = slices.Delete(h.own, i, i+1)
		}
	}
	done := map[api.Ref]int{}
	for i, x := range ran {
		done[x.Ref] = i + 1
	}
	h.decided = slices.DeleteFunc(h.decided, func(x api.Inst) bool { return done[x.Ref] > 0 })
}

// hearShard hears a mail of a shard.
func (n *Node) hearShard(m api.Mail) {
	if h := n.host(m.Shard); h != nil {
		n.obey(h, h.replica.Hear(m))
	}
}
