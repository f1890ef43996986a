package council_test

import (
	"bytes"
	"math"
	"slices"
	"strings"
	"testing"

	"lamella/api"
	"lamella/council"
)

// kept is what the council of heard has kept.
func kept() state {
	return state{term: 3, vote: -1, index: 4, past: 1, voters: names(0, 1, 2), text: "base", log: entries(change(2, "a"), change(3, "b"))}
}

// good are mails to node 0 of which each says something to one that has kept that, and is of its term.
func good() []api.Mail {
	return []api.Mail{
		vote(1, 0, 3, 6, 3),
		appends(1, 0, 3, 6, 3, 0, none(3)),
		appends(1, 0, 3, 5, 2, 5),
		snap(1, 0, 3, 7, 3, "text", 0, 1),
	}
}

// P10.5: a mail that isn't to self, from another node, of the council's kinds, in its bounds, says nothing.
func TestHearNothing(t *testing.T) {
	spoils := map[string]func(m *api.Mail){
		"to another":           func(m *api.Mail) { m.To = 1 },
		"to nobody":            func(m *api.Mail) { m.To = -1 },
		"from self":            func(m *api.Mail) { m.From = 0 },
		"from nobody":          func(m *api.Mail) { m.From = -1 },
		"from no node":         func(m *api.Mail) { m.From = 7 },
		"from a client":        func(m *api.Mail) { m.From = 100 },
		"of a shard's kind":    func(m *api.Mail) { m.Kind = api.MailNext },
		"of the kind below":    func(m *api.Mail) { m.Kind = api.MailVote - 1 },
		"of the kind above":    func(m *api.Mail) { m.Kind = api.MailSnapped + 1 },
		"of no kind":           func(m *api.Mail) { m.Kind = 0 },
		"of a kind below 0":    func(m *api.Mail) { m.Kind = -api.MailVote },
		"Term 0":               func(m *api.Mail) { m.Term, m.Past, m.Entries = 0, 0, nil },
		"Term below 0":         func(m *api.Mail) { m.Term, m.Past, m.Entries = -1, 0, nil },
		"Term above all":       func(m *api.Mail) { m.Term = most + 1 },
		"Term far out":         func(m *api.Mail) { m.Term = math.MaxInt },
		"Index below 0":        func(m *api.Mail) { m.Index = -1 },
		"Index above all":      func(m *api.Mail) { m.Index = most + 1 },
		"Index far out":        func(m *api.Mail) { m.Index = math.MaxInt },
		"Past below 0":         func(m *api.Mail) { m.Past = -1 },
		"Past above Term":      func(m *api.Mail) { m.Past, m.Entries = 4, nil },
		"Past above all":       func(m *api.Mail) { m.Past = most + 1 },
		"Commit below 0":       func(m *api.Mail) { m.Commit = -1 },
		"Commit above all":     func(m *api.Mail) { m.Commit = most + 1 },
		"Commit far out":       func(m *api.Mail) { m.Commit = math.MinInt },
		"too many entries":     func(m *api.Mail) { m.Entries = rows(api.MaxList+1, none(3)) },
		"an entry below Past":  func(m *api.Mail) { m.Entries = entries(none(m.Past - 1)) },
		"entries that fall":    func(m *api.Mail) { m.Past, m.Entries = 1, entries(none(3), none(2)) },
		"an entry above Term":  func(m *api.Mail) { m.Entries = entries(none(4)) },
		"an entry of Kind 3":   func(m *api.Mail) { m.Entries = entries(api.Entry{Term: 3, Kind: 3}) },
		"an entry of Kind -1":  func(m *api.Mail) { m.Entries = entries(api.Entry{Term: 3, Kind: -1}) },
		"a long entry":         func(m *api.Mail) { m.Entries = entries(change(3, strings.Repeat("a", 4097))) },
		"an entry of none":     func(m *api.Mail) { m.Entries = entries(voters(3)) },
		"an entry of no nodes": func(m *api.Mail) { m.Entries = entries(none(3), voters(3, 7)) },
	}
	for i, m := range good() {
		for what, spoil := range spoils {
			c := loads(t, 0, kept())
			x := m
			spoil(&x)
			saysNothing(t, what, c, x)
			if w := c.Hear(m); len(w.Mails) != 1 {
				t.Errorf("the good mail %d says nothing: %+v", i, w)
			}
		}
	}
}

// saysNothing checks that a mail is as if it hadn't come, the clock among that.
func saysNothing(t *testing.T, what string, c *council.Council, m api.Mail) {
	t.Helper()
	was, leader, told := c.Encode(), c.Leader(), c.Told()
	asksNothing(t, what, c.Hear(m))
	if !bytes.Equal(was, c.Encode()) || c.Leader() != leader || c.Told() != told {
		t.Errorf("%s: something has changed", what)
	}
}

// P10.5: a MailSnap has one entry, of Kind 2, and no more text than may be.
func TestHearNoSnap(t *testing.T) {
	for what, spoil := range map[string]func(m *api.Mail){
		"no entry":        func(m *api.Mail) { m.Entries = nil },
		"two entries":     func(m *api.Mail) { m.Entries = append(m.Entries, m.Entries[0]) },
		"Kind 0":          func(m *api.Mail) { m.Entries = entries(none(3)) },
		"Kind 1":          func(m *api.Mail) { m.Entries = entries(change(3, names(0))) },
		"no voters":       func(m *api.Mail) { m.Entries = entries(voters(3)) },
		"other voters":    func(m *api.Mail) { m.Entries = entries(voters(3, 1, 0)) },
		"below Past":      func(m *api.Mail) { m.Entries = entries(voters(2, 0)) },
		"above Term":      func(m *api.Mail) { m.Entries = entries(voters(4, 0)) },
		"a text too long": func(m *api.Mail) { m.Text = strings.Repeat("a", api.MaxText+1) },
	} {
		m := snap(1, 0, 3, 7, 3, "text", 0, 1)
		spoil(&m)
		c := loads(t, 0, kept())
		saysNothing(t, what, c, m)
		quiet(t, what, c, 9)
		if w := c.Tick(); len(w.Mails) != 2 {
			t.Errorf("%s: the clock has changed", what)
		}
	}
}

// P10.5: mails at the bounds say something; so do those of nodes that are no voters; other texts aren't bounded.
func TestHearAtTheBounds(t *testing.T) {
	long := strings.Repeat("a", api.MaxText)
	text := vote(6, 0, 3, 6, 3)
	text.Text = long + long
	for what, m := range map[string]api.Mail{
		"of no voter":   appends(6, 0, 3, 6, 3, 0),
		"Term":          appends(1, 0, most, 6, 3, 0, none(most)),
		"Commit":        appends(1, 0, 3, 6, 3, most),
		"Index":         appends(1, 0, 3, most, 3, 0),
		"Past":          appends(1, 0, most, most, most, most),
		"many entries":  appends(1, 0, 3, 4, 1, 0, rows(api.MaxList, none(3))...),
		"a long entry":  appends(1, 0, 3, 6, 3, 0, change(3, long[:4096])),
		"a long text":   snap(1, 0, 3, 7, 3, long, 0),
		"a longer text": text,
	} {
		c := loads(t, 0, kept())
		if w := c.Hear(m); len(w.Mails) != 1 {
			t.Errorf("%s: %d mails", what, len(w.Mails))
		}
	}
}

// P10.5: a higher term ends all that was in the lower one; a MailVote may be left out (P10.6).
func TestHearHigherTerm(t *testing.T) {
	for _, m := range []api.Mail{
		voted(1, 0, 9, true), voted(1, 0, 9, false), appended(2, 0, 9, true, 1), appended(6, 0, 9, false, 0),
		snapped(1, 0, 9, 1), snapped(5, 0, 9, most),
	} {
		c := leads(t, 0, 0, 1, 2)
		asks(t, "a leader hears of a higher term", c.Hear(m), true, nil)
		keeps(t, "a leader", c, state{term: 9, vote: -1, voters: names(0, 1, 2), log: entries(none(1))})
		has(t, "a leader", c, -1, 1, 0, 1, 2)
		refuses(t, "a leader that was", c, 1, "a", api.ErrNone)

		c = begins(t, 0, 0, 1, 2)
		stands(t, c, 0)
		asks(t, "one that stands hears of a higher term", c.Hear(m), true, nil)
		keeps(t, "one that stands", c, state{term: 9, vote: -1, voters: names(0, 1, 2)})
		asksNothing(t, "a vote of the lower term", c.Hear(voted(1, 0, 1, true)))
		asksNothing(t, "a vote of the higher term", c.Hear(voted(1, 0, 9, true)))

		c = begins(t, 0, 0, 1, 2)
		c.Hear(appends(1, 0, 2, 0, 0, 0))
		has(t, "one that follows", c, 1, 0, 0, 1, 2)
		asks(t, "one that follows hears of a higher term", c.Hear(m), true, nil)
		has(t, "one that follows", c, -1, 0, 0, 1, 2)
		quiet(t, "the clock goes on", c, 9)
		asks(t, "the clock goes on", c.Tick(), true, nil, vote(0, 1, 10, 0, 0), vote(0, 2, 10, 0, 0))
	}
}

// P10.5: the clock isn't set by a higher term. That of a leader counts from its election on: so it stands again at once.
func TestHigherTermAndClock(t *testing.T) {
	c := leads(t, 0, 0, 1, 2)
	for range 20 {
		c.Tick()
	}
	c.Hear(appended(1, 0, 4, false, 0))
	asks(t, "a leader that was", c.Tick(), true, nil, vote(0, 1, 5, 1, 1), vote(0, 2, 5, 1, 1))

	c = begins(t, 1, 0, 1, 2)
	quiet(t, "one that follows", c, 8)
	asks(t, "one that follows", c.Hear(snapped(0, 1, 4, 0)), true, nil)
	quiet(t, "one that follows", c, 4)
	asks(t, "one that follows", c.Tick(), true, nil, vote(1, 0, 5, 0, 0), vote(1, 2, 5, 0, 0))
}

// P10.5: lower terms, and what is no answer to anything, say nothing of these kinds.
func TestHearLowerTerm(t *testing.T) {
	for _, m := range []api.Mail{
		voted(1, 0, 2, true), appended(1, 0, 2, true, 1), appended(1, 0, 2, false, 0), snapped(1, 0, 2, 1),
		voted(1, 0, 3, true), voted(1, 0, 3, false), appended(1, 0, 3, true, 5), appended(1, 0, 3, false, 5), snapped(1, 0, 3, 5),
	} {
		saysNothing(t, "one that follows", loads(t, 0, kept()), m)
	}
	for _, m := range []api.Mail{voted(1, 0, 3, true), appended(1, 0, 3, true, 7), appended(1, 0, 3, false, 5), snapped(1, 0, 3, 7)} {
		c := loads(t, 0, kept())
		elects(t, c, 0)
		saysNothing(t, "a leader of the term 4", c, m)
	}
}

// Rule 4: a mail's entries stay the sender's.
func TestHearMemory(t *testing.T) {
	l := entries(none(1), change(1, "a"), change(1, "b"), change(1, "spare"))
	c := begins(t, 0, 0, 1, 2)
	c.Hear(appends(1, 0, 1, 0, 0, 0, l[:3]...))
	c.Hear(appends(1, 0, 2, 3, 1, 0, change(2, "c")))
	if l[3] != change(1, "spare") {
		t.Error("the spare room has changed")
	}
	l[1] = change(1, "spoilt")
	want := state{term: 2, vote: -1, voters: names(0, 1, 2), log: entries(none(1), change(1, "a"), change(1, "b"), change(2, "c"))}
	keeps(t, "behind a change of the entries", c, want)
	w := c.Hear(appends(1, 0, 2, 4, 2, 4))
	w.News[2].Entry.Text = "spoilt"
	keeps(t, "behind a change of the News", c, want)
}

// Rule 4: a leader's mails share nothing with what it keeps, nor with each other.
func TestMailMemory(t *testing.T) {
	c := leads(t, 0, 0, 1, 2)
	w := offers(t, c, 1, "a")
	was := c.Encode()
	for i := range w.Mails {
		if !slices.Equal(w.Mails[i].Entries, entries(change(1, "a"))) {
			t.Errorf("mail %d has %v", i, w.Mails[i].Entries)
		}
		l := w.Mails[i].Entries[:cap(w.Mails[i].Entries)]
		for k := range l {
			l[k].Text = "spoilt"
		}
	}
	if !bytes.Equal(c.Encode(), was) {
		t.Error("a change of a mail changes what is kept")
	}
	offers(t, c, 1, "b")
	keeps(t, "behind another offer", c, state{term: 1, vote: 0, voters: names(0, 1, 2), log: entries(none(1), change(1, "a"), change(1, "b"))})
}
