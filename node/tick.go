package node

import (
	"maps"
	"slices"

	"lamella/api"
	"lamella/warden"
)

// The ticks of P13.4 to P13.6 and of P13.9a.
const (
	fetchTicks  = 3
	mapTicks    = 6
	placeTicks  = 6
	freezeTicks = 12
	loadTicks   = 16
)

// Tick: P13.8.
func (n *Node) Tick() []api.Mail {
	if n.Down() {
		return nil
	}
	mails, _ := n.run(func() api.Errno {
		n.tick()
		return api.OK
	})
	return mails
}

// tick begins with what lets shards go, and ends with what executes: so whoever asks behind a call is told all that was executed in it.
func (n *Node) tick() {
	n.ticks++
	n.settle()
	n.follow(n.council.Tick())
	for _, h := range n.here() {
		n.obey(h, h.replica.Tick(h.wants))
	}
	for _, h := range n.all() {
		n.tickClosing(h)
	}
	if n.ticks%fetchTicks == 0 {
		n.fetch()
		n.tellInstalled()
	}
	if n.ticks%mapTicks == 0 {
		n.spread(n.mapMail())
	}
	if n.ticks%loadTicks == 0 && n.conf.Rules != (api.Rules{}) {
		n.tellLoads()
		n.decide()
	}
}

// tickClosing freezes a shard that is closing. Members do it one behind the other, so that they don't hinder each other.
func (n *Node) tickClosing(h *host) {
	if !h.closing {
		return
	}
	h.clock++
	below := 0
	for _, m := range h.origin.Members {
		if m < n.self {
			below++
		}
	}
	late := h.clock - (1 + placeTicks*below)
	if late < 0 || late%freezeTicks != 0 || h.base == nil || h.engine.Frozen() {
		return
	}
	if _, out, e := h.replica.Propose(api.Cmd{Op: api.OpFreeze}); e == api.OK {
		n.obey(h, out)
	}
}

// tellLoads tells the leader what the installed shards had to do since it was told last.
func (n *Node) tellLoads() {
	leader := n.council.Leader()
	if leader == nobody {
		return
	}
	for _, h := range n.here() {
		l := api.Load{
			Shard: h.origin.Id, Commands: h.meter.Commands(), Insts: len(h.replica.Insts()), Mid: h.meter.Mid(h.origin.Span),
		}
		h.meter.Clear()
		if leader == n.self {
			n.hearLoad(l)
			continue
		}
		n.send(api.Mail{Kind: api.MailLoad, To: leader, Shard: l.Shard, Index: l.Commands, Past: l.Insts, Commit: l.Mid})
	}
}

// hearLoad notes what a shard had to do: members tell of it, each what it has seen.
func (n *Node) hearLoad(l api.Load) {
	most, in := n.loads[l.Shard]
	if in && l.Commands <= most.Commands {
		most.Insts = max(most.Insts, l.Insts)
		n.loads[l.Shard] = most
		return
	}
	l.Insts = max(l.Insts, most.Insts)
	n.loads[l.Shard] = l
}

// decide wishes the change that the rules ask for, if self leads. In the first ticks nobody is known to be silent.
func (n *Node) decide() {
	var loads []api.Load
	for _, id := range slices.Sorted(maps.Keys(n.loads)) {
		loads = append(loads, n.loads[id])
	}
	n.loads = map[int]api.Load{}
	r := n.conf.Rules
	if n.ticks <= r.Mute {
		return
	}
	live := []int{n.self}
	for node, tick := range n.heard {
		if n.ticks-tick < r.Mute {
			live = append(live, node)
		}
	}
	if c, ok := warden.Decide(n.told, r, loads, live); ok {
		n.wish(c)
	}
}
