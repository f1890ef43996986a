package council

import "lamella/api"

// Hear: P10.5.
func (c *Council) Hear(m api.Mail) api.Word {
	var w api.Word
	if c == nil || !c.minds(m) {
		return w
	}
	if m.Kind != api.MailVote {
		c.rise(&w, m.Term)
	}
	switch m.Kind {
	case api.MailVote:
		c.hearVote(&w, m)
	case api.MailVoted:
		c.hearVoted(&w, m)
	case api.MailAppend:
		c.hearAppend(&w, m)
	case api.MailAppended:
		c.hearAppended(&w, m)
	case api.MailSnap:
		c.hearSnap(&w, m)
	case api.MailSnapped:
		c.hearSnapped(&w, m)
	}
	return w
}

// minds: is it a mail that says something?
func (c *Council) minds(m api.Mail) bool {
	return m.To == c.self && m.From != c.self && isNode(m.From) &&
		m.Kind >= api.MailVote && m.Kind <= api.MailSnapped &&
		m.Term > 0 && areNumbers(m.Term, m.Index, m.Past, m.Commit) && mayFollow(m.Past, m.Term, m.Entries) &&
		(m.Kind != api.MailSnap || maySnap(m))
}

// maySnap: does it tell a base?
func maySnap(m api.Mail) bool {
	return len(m.Entries) == 1 && m.Entries[0].Kind == kindVoters && len(m.Text) <= api.MaxText
}

// follow takes a node for the leader of the term.
func (c *Council) follow(node int) { c.role, c.leader, c.clock = following, node, 0 }

func (c *Council) hearAppend(w *api.Word, m api.Mail) {
	answer := api.Mail{Kind: api.MailAppended, To: m.From}
	if m.Term < c.term {
		c.post(w, answer)
		return
	}
	c.follow(m.From)
	ahead, past, l := c.behindBase(m)
	if ahead > c.Last() || c.termAt(ahead) != past {
		answer.Index = min(c.Last(), ahead-1)
		c.post(w, answer)
		return
	}
	if !c.replace(w, ahead, l) {
		return
	}
	last := ahead + len(l)
	c.tell(w, min(m.Commit, last))
	answer.Ok, answer.Index = true, last
	c.post(w, answer)
}

// behindBase is the entry ahead of a mail's entries, and these, without what stands up to the base. Where the mail tells the base's own entry, its term is to be held against the base's: entries that follow another one may be below the base's term.
func (c *Council) behindBase(m api.Mail) (ahead, past int, l []api.Entry) {
	below := c.base.index - m.Index
	switch {
	case below <= 0:
		return m.Index, m.Past, m.Entries
	case below <= len(m.Entries):
		return c.base.index, m.Entries[below-1].Term, m.Entries[below:]
	}
	return c.base.index, c.base.term, nil
}

func (c *Council) hearSnap(w *api.Word, m api.Mail) {
	if m.Term < c.term {
		c.post(w, api.Mail{Kind: api.MailSnapped, To: m.From})
		return
	}
	c.follow(m.From)
	if m.Index > c.told {
		c.rebase(base{m.Index, m.Past, m.Entries[0].Text, m.Text})
		c.told = m.Index
		w.Keep = true
		w.News = append(w.News, api.News{Index: m.Index, Entry: api.Entry{Text: m.Text}, Snap: true})
	}
	c.post(w, api.Mail{Kind: api.MailSnapped, To: m.From, Index: c.told})
}
