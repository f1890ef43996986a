package node

import (
	"slices"

	"lamella/api"
	"lamella/blocks"
)

// firstClient is the place in mails of the client 0.
const firstClient = 100

// isClients: is it a command that a client may have asked for?
func isClients(c api.Cmd) bool {
	return c.Op != api.OpNone && c.Op != api.OpFreeze && blocks.May(c)
}

// sameCmd: are all their fields the same?
func sameCmd(a, b api.Cmd) bool {
	return a.Op == b.Op && a.Client == b.Client && a.Seq == b.Seq && a.From == b.From && a.To == b.To && slices.Equal(a.Data, b.Data)
}

// hearRequest goes on with a client's command, or tells it the map.
func (n *Node) hearRequest(m api.Mail) {
	c := m.Inst.Cmd
	if !isClients(c) {
		return
	}
	h := n.host(m.Shard)
	if h == nil || c.Client != m.From-firstClient || !h.serves(c) {
		n.sayWrong(m.From, c)
		return
	}
	if o := h.under(c); o != nil {
		o.waits = true
		return
	}
	ref, out, e := h.replica.Propose(c)
	if e != api.OK {
		return
	}
	c.Data = slices.Clone(c.Data)
	h.own = append(h.own, order{ref, c, true})
	n.obey(h, out)
}

// serves: may clients ask it for that?
func (h *host) serves(c api.Cmd) bool {
	return !h.closing && !h.engine.Frozen() && c.From >= h.origin.Span.From && c.To <= h.origin.Span.To
}

// under is the node's own instance of a command that isn't executed yet; nil. One that others have ended by doing nothing isn't of that command any more.
func (h *host) under(c api.Cmd) *order {
	for i, o := range h.own {
		if x, in := h.replica.Get(o.ref); in && sameCmd(x.Cmd, c) {
			return &h.own[i]
		}
	}
	return nil
}

// answer tells a client what its command came to. Where others have decided that its instance does nothing, the command wasn't done.
func (n *Node) answer(h *host, o order, x api.Ran) {
	if !o.waits {
		return
	}
	to := firstClient + o.cmd.Client
	if !x.Reply.Ok || !sameCmd(o.cmd, x.Cmd) {
		n.sayWrong(to, o.cmd)
		return
	}
	c := o.cmd
	c.Data = x.Reply.Data
	n.send(api.Mail{Kind: api.MailReply, To: to, Shard: h.origin.Id, Ok: true, Inst: api.Inst{Cmd: c}})
}

// sayWrong tells who asks that this isn't the place, and the map.
func (n *Node) sayWrong(to int, c api.Cmd) {
	c.Data = nil
	m := n.mapMail()
	m.Kind, m.To, m.Inst.Cmd = api.MailWrong, to, c
	n.send(m)
}
