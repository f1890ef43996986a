package node

import (
	"lamella/api"
	"lamella/atlas"
)

// The kinds of the council's entries.
const (
	kindChange = 1
	kindVoters = 2
)

// mostLog is how many entries that were told the council's log has at most: behind that the map stands for them, so that the log doesn't grow for ever.
const mostLog = 64

// follow does what a word of the council asks for.
func (n *Node) follow(w api.Word) {
	n.asked.council = n.asked.council || w.Keep
	n.asked.mails = append(n.asked.mails, w.Mails...)
	for _, x := range w.News {
		n.hearNews(x)
	}
	n.shorten()
	n.adopt(n.told)
}

// hearNews goes on with the map of the council's News.
func (n *Node) hearNews(x api.News) {
	if x.Snap {
		if a, ok := takeMap(x.Entry.Text, n.conf.Blocks); ok {
			n.told = a
		}
		n.base, n.based = n.told.Clone(), x.Index
		return
	}
	n.toldTerm = x.Entry.Term
	if c, e := atlas.Take(x.Entry.Text); x.Entry.Kind == kindChange && e == api.OK {
		n.told.Apply(c)
	}
}

// takeMap is the map of so many blocks that a text tells.
func takeMap(text string, blocks int) (*atlas.Atlas, bool) {
	a, e := atlas.Decode([]byte(text))
	if e != api.OK || a.Blocks() != blocks {
		return nil, false
	}
	return a, true
}

// shorten lets the map stand for all entries that were told, if these are many.
func (n *Node) shorten() {
	told := n.council.Told()
	if told-n.based <= mostLog {
		return
	}
	if w, e := n.council.Compact(told, string(n.told.Encode())); e == api.OK {
		n.base, n.based = n.told.Clone(), told
		n.asked.council = n.asked.council || w.Keep
	}
}

// adopt takes a map for the newest one, if it is newer.
func (n *Node) adopt(a *atlas.Atlas) {
	if !isNewer(a, n.atlas) {
		return
	}
	n.atlas = a.Clone()
	n.recordMap()
	n.rehost()
}

// isNewer: P13.4. Of two of one epoch that have nothing open none is newer, else they would be sent to and fro for ever.
func isNewer(a, b *atlas.Atlas) bool {
	if a.Epoch() != b.Epoch() {
		return a.Epoch() > b.Epoch()
	}
	return len(a.Open()) == 0 && len(b.Open()) > 0
}

// hearMap takes on a newer map, and tells its own to who has an older one.
func (n *Node) hearMap(m api.Mail) {
	a, ok := takeMap(m.Text, n.conf.Blocks)
	if !ok {
		return
	}
	n.adopt(a)
	if isNewer(n.atlas, a) {
		own := n.mapMail()
		own.To = m.From
		n.send(own)
	}
}

// mapMail tells the newest map.
func (n *Node) mapMail() api.Mail {
	return api.Mail{Kind: api.MailMap, Epoch: n.atlas.Epoch(), Text: string(n.atlas.Encode())}
}

// wish offers a change, if that can be. Nobody may end one ahead of time: the shards that the open ones are made of would be forgotten, and their blocks with them.
func (n *Node) wish(c api.Change) api.Errno {
	switch {
	case !n.council.Leads():
		return api.ErrNone
	case n.offered.term == n.council.Term() && n.offered.index > n.council.Told():
		return api.ErrBusy
	case c.Kind == api.ChangeReplace && !n.isNode(c.In):
		return api.ErrArg
	}
	if e := n.told.Clone().Apply(c); e != api.OK {
		return e
	}
	if c.Kind == api.ChangeSettle && !n.maySettle() {
		return api.ErrBusy
	}
	return n.offer(kindChange, atlas.Lay(c))
}

// offer offers an entry to the council.
func (n *Node) offer(kind int, text string) api.Errno {
	w, e := n.council.Offer(kind, text)
	if e != api.OK {
		return e
	}
	if kind == kindChange {
		n.offered = offered{n.council.Term(), n.council.Last()}
	}
	n.follow(w)
	return api.OK
}

// voterText is the text that names the voters, a byte each; a number that no byte can be is one that no voter has.
func voterText(voters []int) string {
	var b []byte
	for _, v := range voters {
		b = append(b, byte(min(uint(v), 255)))
	}
	return string(b)
}

// hearChange wishes what another one wishes, or hands it on to who may.
func (n *Node) hearChange(m api.Mail) {
	c, e := atlas.Take(m.Text)
	if e != api.OK {
		return
	}
	leader := n.council.Leader()
	switch {
	case n.council.Leads():
		n.wish(c)
	case leader != nobody && leader != m.From:
		n.send(api.Mail{Kind: api.MailChange, To: leader, Text: m.Text})
	}
}

// settle ends the change whose shards are open, if self leads and may end it.
func (n *Node) settle() { n.wish(api.Change{Kind: api.ChangeSettle}) }

// maySettle: is each open shard installed at enough members? As long as a leader hasn't been told of an entry of its own term, its log may have others' entries that it doesn't know of: these could open other shards, which nobody has installed.
func (n *Node) maySettle() bool {
	if n.toldTerm != n.council.Term() {
		return false
	}
	for _, id := range n.told.Open() {
		if !n.isInstalled(id) {
			return false
		}
	}
	return true
}

// mayEnd: is a shard one of a change that isn't settled, or isn't told yet, by the council's News?
func (n *Node) mayEnd(id int) bool { return id >= n.told.Next() || has(n.told.Open(), id) }

// isInstalled: has a majority of a shard's members told that it has it installed?
func (n *Node) isInstalled(id int) bool {
	s, _ := n.told.Get(id)
	told := n.installed[id]
	count := 0
	for _, m := range s.Members {
		if told[m] || m == n.self && n.host(id) != nil {
			count++
		}
	}
	return 2*count > len(s.Members)
}
