package node

import (
	"lamella/api"
	"lamella/blocks"
)

// fetch asks for the blocks of the shards that wait for them.
func (n *Node) fetch() {
	times := map[int]int{} // shards that are made of one another's need its last state but once
	for _, h := range n.all() {
		if h.base != nil {
			continue
		}
		n.tell(h.origin.Members, api.Mail{Kind: api.MailFetch, Shard: h.origin.Id})
		for _, o := range h.past {
			if times[o.Id]++; times[o.Id] == 1 {
				n.tell(o.Members, api.Mail{Kind: api.MailFetch, Shard: o.Id, Ok: true})
			}
		}
	}
}

// tell sends a mail to those of some nodes that aren't self.
func (n *Node) tell(nodes []int, m api.Mail) {
	for _, m.To = range nodes {
		if m.To != n.self {
			n.send(m)
		}
	}
}

// hearFetch answers what a shard began with, or its last state.
func (n *Node) hearFetch(m api.Mail) {
	h := n.host(m.Shard)
	if h == nil || m.Ok && !h.engine.Frozen() {
		return
	}
	s := h.base
	if m.Ok {
		s = h.engine.Store()
	}
	n.send(api.Mail{Kind: api.MailState, To: m.From, Shard: m.Shard, Text: string(s.Encode())})
}

// hearState takes what a shard that waits began with, or the last state of one that it is made of. The last state alone is frozen.
func (n *Node) hearState(m api.Mail) {
	s, e := blocks.Decode([]byte(m.Text))
	if e != api.OK {
		return
	}
	if s.Frozen() {
		n.hearLast(m, s)
		return
	}
	h, in := n.hosts[m.Shard]
	if in && h.base == nil && has(h.origin.Members, m.From) {
		n.install(h, s)
	}
}

// hearLast notes the last state of a shard, if one waits for it.
func (n *Node) hearLast(m api.Mail, s *blocks.Store) {
	for _, h := range n.hosts {
		if h.base != nil {
			continue
		}
		for _, o := range h.past {
			if o.Id == m.Shard && o.Span == s.Span() && has(o.Members, m.From) {
				n.lasts[o.Id] = s
			}
		}
	}
}

// tellInstalled tells all others of the open shards that are installed.
func (n *Node) tellInstalled() {
	for _, id := range n.atlas.Open() {
		if n.host(id) != nil {
			n.spread(api.Mail{Kind: api.MailInstalled, Shard: id})
		}
	}
}

// hearInstalled notes who has a shard installed, till the change that made it is settled.
func (n *Node) hearInstalled(m api.Mail) {
	if n.mayEnd(m.Shard) {
		l := n.installed[m.Shard]
		l[m.From] = true
		n.installed[m.Shard] = l
		n.settle()
	}
}
