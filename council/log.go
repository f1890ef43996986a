package council

import "lamella/api"

// termAt is the term of the entry number index, which is the base's or in the log.
func (c *Council) termAt(index int) int {
	if index == c.base.index {
		return c.base.term
	}
	return c.log[c.place(index)].Term
}

// place is where the entry number index stands in the log.
func (c *Council) place(index int) int { return index - c.base.index - 1 }

// votersAt is the text of the voters as they are up to an index, which isn't below the base's.
func (c *Council) votersAt(index int) string {
	for i := c.place(index); i >= 0; i-- {
		if c.log[i].Kind == kindVoters {
			return c.log[i].Text
		}
	}
	return c.base.voters
}

// isFull: has the log room for no more?
func (c *Council) isFull() bool { return len(c.log) >= api.MaxList }

// put puts an entry of the term behind the log.
func (c *Council) put(w *api.Word, kind int, text string) {
	c.log = append(c.log, api.Entry{Term: c.term, Kind: kind, Text: text})
	w.Keep = true
}

// part is a copy of up to so many entries, from the one number index on.
func (c *Council) part(index, most int) []api.Entry {
	from := c.place(index)
	to := min(from+most, len(c.log))
	return append([]api.Entry(nil), c.log[from:to:to]...)
}

// replace puts entries behind the one number ahead, from the first one on that isn't there as it is told; what stood behind is gone. False, and nothing, where that may not be.
func (c *Council) replace(w *api.Word, ahead int, l []api.Entry) bool {
	for i, e := range l {
		index := ahead + 1 + i
		if index <= c.Last() && c.termAt(index) == e.Term {
			continue
		}
		stay := c.place(index)
		if index <= c.told || stay+len(l)-i > api.MaxList {
			return false
		}
		c.log = append(c.log[:stay:stay], l[i:]...)
		w.Keep = true
		return true
	}
	return true
}

// rebase takes a new base. The entries behind it stay, if the log has it as its own: else they may be others than those that were agreed on.
func (c *Council) rebase(b base) {
	var rest []api.Entry
	if b.index <= c.Last() && c.termAt(b.index) == b.term {
		rest = c.part(b.index+1, len(c.log))
	}
	c.base, c.log = b, rest
}

// tell tells all up to an index that wasn't told.
func (c *Council) tell(w *api.Word, index int) {
	for c.told < index {
		c.told++
		w.News = append(w.News, api.News{Index: c.told, Entry: c.log[c.place(c.told)]})
	}
}
