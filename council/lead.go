package council

import "lamella/api"

// mostSent is how many entries a mail has at most.
const mostSent = 64

// lead begins to lead.
func (c *Council) lead(w *api.Word) {
	c.role, c.leader, c.beats = leading, c.self, 0
	c.put(w, kindNone, "")
	for n := range c.next {
		c.meetAnew(n)
	}
	c.commit(w)
	c.spread(w)
}

// meetAnew begins to learn how far a node's log goes together with its own.
func (c *Council) meetAnew(node int) { c.match[node], c.next[node] = 0, c.Last()+1 }

// spread sends to all other voters.
func (c *Council) spread(w *api.Word) {
	for _, n := range c.others() {
		c.send(w, n)
	}
}

// send sends a node the entries that it may lack, or the base, if that stands in their place.
func (c *Council) send(w *api.Word, to int) {
	ahead := c.next[to] - 1
	if ahead < c.base.index {
		b := c.base
		voters := api.Entry{Term: b.term, Kind: kindVoters, Text: b.voters}
		c.post(w, api.Mail{Kind: api.MailSnap, To: to, Index: b.index, Past: b.term, Entries: []api.Entry{voters}, Text: b.text})
		return
	}
	c.post(w, api.Mail{
		Kind: api.MailAppend, To: to, Index: ahead, Past: c.termAt(ahead), Commit: c.told, Entries: c.part(ahead+1, mostSent),
	})
}

// counts: is the mail an answer to what self sends as the term's leader?
func (c *Council) counts(m api.Mail) bool {
	return c.role == leading && m.Term == c.term && c.isVoter(m.From) && m.Index <= c.Last()
}

func (c *Council) hearAppended(w *api.Word, m api.Mail) {
	if !c.counts(m) {
		return
	}
	if !m.Ok {
		c.next[m.From] = m.Index + 1
		c.send(w, m.From)
		return
	}
	c.meet(w, m.From, m.Index)
	if c.role == leading && c.match[m.From] < c.Last() {
		c.send(w, m.From)
	}
}

func (c *Council) hearSnapped(w *api.Word, m api.Mail) {
	if c.counts(m) {
		c.meet(w, m.From, m.Index)
	}
}

// meet notes that a node's log goes together with its own up to an index: an answer that comes late takes nothing back.
func (c *Council) meet(w *api.Word, node, index int) {
	c.match[node] = max(c.match[node], index)
	c.next[node] = c.match[node] + 1
	c.commit(w)
}

// reach is up to where a voter's log goes together with self's for sure.
func (c *Council) reach(node int) int {
	if node == c.self {
		return c.Last()
	}
	return c.match[node]
}

// commit tells what a majority has. Entries of lower terms count by one of its own term alone: another leader may still put others in their place.
func (c *Council) commit(w *api.Word) {
	most := c.told
	for _, n := range c.Voters() {
		i := c.reach(n)
		if i > most && c.termAt(i) == c.term && c.majority(func(v int) bool { return c.reach(v) >= i }) {
			most = i
		}
	}
	if most == c.told {
		return
	}
	c.tell(w, most)
	if !names(c.votersAt(most), c.self) {
		c.unseat()
	}
}

// Offer: P10.7.
func (c *Council) Offer(kind int, text string) (api.Word, api.Errno) {
	var w api.Word
	if e := c.mayOffer(kind, text); e != api.OK {
		return w, e
	}
	ahead := c.votersAt(c.Last())
	c.put(&w, kind, text)
	for _, n := range c.others() {
		if !names(ahead, n) {
			c.meetAnew(n)
		}
	}
	c.commit(&w)
	c.spread(&w)
	return w, api.OK
}

// mayOffer: may that be put behind the log?
func (c *Council) mayOffer(kind int, text string) api.Errno {
	switch {
	case c == nil || c.role != leading:
		return api.ErrNone
	case !mayEntry(kind, text):
		return api.ErrArg
	case kind == kindVoters && !c.isSettled():
		return api.ErrDown
	case kind == kindVoters && apart(c.votersAt(c.Last()), text) != 1:
		return api.ErrArg
	case c.isFull():
		return api.ErrBig
	}
	return api.OK
}

// isSettled: are all entries of voters committed, and one of its own term?
func (c *Council) isSettled() bool {
	for _, e := range c.log[c.place(c.told)+1:] {
		if e.Kind == kindVoters {
			return false
		}
	}
	return c.termAt(c.told) == c.term
}

// apart is how many nodes one of two texts of voters names and the other doesn't.
func apart(a, b string) int {
	n := 0
	for node := range api.MaxNodes {
		if names(a, node) != names(b, node) {
			n++
		}
	}
	return n
}
