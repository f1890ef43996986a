package council

import "lamella/api"

// The ticks of P10.6 and P10.7: those that a leader may be silent, how much longer each node waits than the one below it, and how often a leader sends.
const (
	calmTicks = 10
	nodeTicks = 3
	beatTicks = 2
)

// Tick: P10.6, P10.7.
func (c *Council) Tick() api.Word {
	var w api.Word
	if c == nil {
		return w
	}
	c.clock++
	switch c.role {
	case leading:
		c.beats++
		if c.beats%beatTicks == 0 {
			c.spread(&w)
		}
	case following, standing:
		if c.clock >= calmTicks+nodeTicks*c.self && c.mayStand() {
			c.stand(&w)
		}
	}
	return w
}

// mayStand: is self a voter, or was it one ahead of an entry that isn't committed for all it knows? Without the latter, one that has left by an entry that stands in its log alone would neither lead nor vote for those that need its vote. Behind the last term there is none to stand in: what is kept of it could not be loaded.
func (c *Council) mayStand() bool {
	if c.term >= mostNumber {
		return false
	}
	if names(c.votersAt(c.told), c.self) {
		return true
	}
	for _, e := range c.log[c.place(c.told)+1:] {
		if e.Kind == kindVoters && names(e.Text, c.self) {
			return true
		}
	}
	return false
}

// stand begins an election. Its own vote is enough where it is alone.
func (c *Council) stand(w *api.Word) {
	c.term, c.vote = c.term+1, c.self
	c.role, c.leader, c.clock = standing, nobody, 0
	c.votes = [api.MaxNodes]bool{}
	c.votes[c.self] = true
	w.Keep = true
	last := c.Last()
	for _, n := range c.others() {
		c.post(w, api.Mail{Kind: api.MailVote, To: n, Index: last, Past: c.termAt(last)})
	}
	c.win(w)
}

// win leads, if enough have voted for it.
func (c *Council) win(w *api.Word) {
	if !c.isFull() && c.majority(func(n int) bool { return c.votes[n] }) {
		c.lead(w)
	}
}

// hearVote leaves out who has a leader: one that doesn't hear of a leader, since it isn't a voter any more, can't hinder the others thereby.
func (c *Council) hearVote(w *api.Word, m api.Mail) {
	if c.role == leading || c.leader != nobody && c.clock < calmTicks {
		return
	}
	c.rise(w, m.Term)
	ok := m.Term == c.term && (c.vote == nobody || c.vote == m.From) && c.isNoFurther(m.Past, m.Index)
	if ok {
		c.clock = 0
		w.Keep = w.Keep || c.vote != m.From
		c.vote = m.From
	}
	c.post(w, api.Mail{Kind: api.MailVoted, To: m.From, Ok: ok})
}

// isNoFurther: does the log go no further than one whose last entry has that term and index?
func (c *Council) isNoFurther(term, index int) bool {
	last := c.Last()
	mine := c.termAt(last)
	return term > mine || term == mine && index >= last
}

func (c *Council) hearVoted(w *api.Word, m api.Mail) {
	if !m.Ok || m.Term != c.term || c.role != standing {
		return
	}
	c.votes[m.From] = true
	c.win(w)
}
