package council_test

import (
	"strings"
	"testing"

	"lamella/api"
)

// behind is one that has a base and three entries, of which the first is told.
func behind() state {
	return state{term: 5, vote: 2, index: 4, past: 2, voters: names(0, 1, 2), text: "base", log: entries(change(2, "a"), change(3, "b"), change(3, "c"))}
}

// P10.9: a lower term is refused, and the sender isn't followed.
func TestAppendOfALowerTerm(t *testing.T) {
	c := loads(t, 0, behind())
	asks(t, "a lower term", c.Hear(appends(1, 0, 4, 7, 3, 7, none(4))), false, nil, appended(0, 1, 5, false, 0))
	asks(t, "a lower term", c.Hear(snap(1, 0, 4, 9, 4, "x", 0)), false, nil, snapped(0, 1, 5, 0))
	keeps(t, "a lower term", c, behind())
	has(t, "a lower term", c, -1, 4, 0, 1, 2)
}

// P10.9: one of the term, or of a higher one, is followed, also by one that leads.
func TestAppendIsFollowed(t *testing.T) {
	for _, x := range []struct {
		m    api.Mail
		told int
	}{
		{appends(6, 0, 5, 7, 3, 0), 4}, {appends(6, 0, 5, 9, 5, 0), 4},
		{snap(6, 0, 5, 1, 1, "", 3), 4}, {snap(6, 0, 5, 9, 5, "", 0, 1, 2), 9},
	} {
		c := loads(t, 0, behind())
		c.Hear(x.m)
		has(t, "of the term", c, 6, x.told, 0, 1, 2)
		c = loads(t, 0, behind())
		x.m.Term = 8
		if w := c.Hear(x.m); !w.Keep || c.Term() != 8 {
			t.Errorf("of a higher term: keep %v, term %d", w.Keep, c.Term())
		}
		has(t, "of a higher term", c, 6, x.told, 0, 1, 2)
		c = leads(t, 0, 0, 1, 2)
		c.Hear(x.m)
		if c.Leads() || c.Leader() != 6 {
			t.Errorf("one that leads: leader %d", c.Leader())
		}
		c = leads(t, 0, 0, 1, 2)
		x.m.Term = 1
		x.m.Past, x.m.Entries = 1, nil
		if x.m.Kind == api.MailSnap {
			x.m.Entries = entries(voters(1, 0, 1, 2))
		}
		c.Hear(x.m)
		if c.Leads() || c.Leader() != 6 {
			t.Errorf("one that leads in the same term: leader %d", c.Leader())
		}
	}
}

// P10.9: what is there stays, what isn't is put behind.
func TestAppendThatFits(t *testing.T) {
	for _, x := range []struct {
		what        string
		index, past int
		l           []api.Entry
		keep        bool
		log         []api.Entry // behind the first entry
	}{
		{"nothing", 7, 3, nil, false, entries(change(3, "b"), change(3, "c"))},
		{"nothing, ahead of the end", 5, 2, nil, false, entries(change(3, "b"), change(3, "c"))},
		{"nothing, at the base", 4, 2, nil, false, entries(change(3, "b"), change(3, "c"))},
		{"behind the end", 7, 3, entries(none(3), change(5, "x")), true, entries(change(3, "b"), change(3, "c"), none(3), change(5, "x"))},
		{"all of it again", 4, 2, behind().log, false, entries(change(3, "b"), change(3, "c"))},
		{"some of it again", 5, 2, entries(change(3, "b")), false, entries(change(3, "b"), change(3, "c"))},
		{"some again, and more", 6, 3, entries(change(3, "c"), change(4, "d")), true, entries(change(3, "b"), change(3, "c"), change(4, "d"))},
		{"the last one is another", 6, 3, entries(change(4, "d")), true, entries(change(3, "b"), change(4, "d"))},
		{"the last two are others", 5, 2, entries(change(4, "d")), true, entries(change(4, "d"))},
		{"one in between is another", 4, 2, entries(change(2, "a"), change(5, "d"), change(5, "e")), true, entries(change(5, "d"), change(5, "e"))},
		{"of the same term what is there stays", 5, 2, entries(none(3), none(3)), false, entries(change(3, "b"), change(3, "c"))},
	} {
		c := loads(t, 0, behind())
		asks(t, x.what, c.Hear(appends(1, 0, 5, x.index, x.past, 0, x.l...)), x.keep, nil, appended(0, 1, 5, true, x.index+len(x.l)))
		s := behind()
		s.log = append(s.log[:1], x.log...)
		keeps(t, x.what, c, s)
		has(t, x.what, c, 1, 4, 0, 1, 2)
	}
}

// P10.9: what doesn't fit is told by where to try next.
func TestAppendThatDoesntFit(t *testing.T) {
	for _, x := range []struct{ index, past, answer int }{
		{8, 3, 7}, {9, 5, 7}, {most, 5, 7}, {7, 2, 6}, {7, 4, 6}, {6, 2, 5}, {5, 3, 4}, {4, 1, 3}, {4, 3, 3}, {7, 0, 6},
	} {
		c := loads(t, 0, behind())
		asks(t, "what doesn't fit", c.Hear(appends(1, 0, 5, x.index, x.past, 9, none(5))), false, nil, appended(0, 1, 5, false, x.answer))
		keeps(t, "what doesn't fit", c, behind())
		has(t, "what doesn't fit", c, 1, 4, 0, 1, 2)
	}
	c := begins(t, 0, 0, 1)
	asks(t, "nothing is there", c.Hear(appends(1, 0, 1, 1, 1, 1)), true, nil, appended(0, 1, 1, false, 0))
	asks(t, "another beginning", c.Hear(appends(1, 0, 1, 0, 1, 0)), false, nil, appended(0, 1, 1, false, -1))
}

// P10.9: what stands up to the base is let go.
func TestAppendAheadOfTheBase(t *testing.T) {
	for _, x := range []struct {
		what        string
		index, past int
		l           []api.Entry
		answer      int
		log         []api.Entry
	}{
		{"all of it below the base", 1, 1, entries(none(1)), 4, behind().log},
		{"nothing below the base", 2, 1, nil, 4, behind().log},
		{"up to the base", 0, 0, entries(none(0), none(0), none(1), none(2)), 4, behind().log},
		{"up to the one ahead of the base", 0, 0, rows(3, none(5)), 4, behind().log},
		{"the base, and one", 3, 1, entries(none(2), change(2, "x")), 5, behind().log},
		{"the base, and others", 3, 1, entries(none(2), change(4, "x"), change(4, "y")), 6, entries(change(4, "x"), change(4, "y"))},
		{"the base, and all, and one more", 2, 2, append(rows(3, none(2)), none(3), none(3), none(5)), 8, append(behind().log, none(5))},
	} {
		c := loads(t, 0, behind())
		w := c.Hear(appends(1, 0, 5, x.index, x.past, 0, x.l...))
		s := behind()
		s.log = x.log
		keeps(t, x.what, c, s)
		asks(t, x.what, w, len(x.log) != 3, nil, appended(0, 1, 5, true, x.answer))
	}
}

// P10.9, P10.2: the base's own entry, told with another term, doesn't fit: what stands behind it isn't taken.
func TestAppendAgainstTheBase(t *testing.T) {
	for _, x := range []struct {
		what        string
		index, past int
		l           []api.Entry
	}{
		{"the base alone, of a lower term", 3, 1, entries(none(1))},
		{"the base alone, of a higher term", 3, 1, entries(none(3))},
		{"a row up to the base", 0, 0, rows(4, none(0))},
		{"the base, and one of a lower term", 3, 1, entries(none(1), none(1))},
		{"the base, and one as it is there", 3, 1, entries(none(1), change(2, "a"))},
		{"the base, and all as it is there, and more", 3, 1, append(entries(none(1)), append(behind().log, none(5))...)},
		{"the base of a higher term, and more", 3, 1, rows(9, none(5))},
		{"a row to behind the end", 0, 0, rows(9, none(1))},
		{"as many as a mail has", 1, 1, rows(api.MaxList, none(1))},
	} {
		c := loads(t, 0, behind())
		quiet(t, x.what, c, 9)
		asks(t, x.what, c.Hear(appends(1, 0, 5, x.index, x.past, 9, x.l...)), false, nil, appended(0, 1, 5, false, 3))
		keeps(t, x.what, c, behind())
		has(t, x.what, c, 1, 4, 0, 1, 2)
		quiet(t, "the sender is followed", c, 9)
	}
}

// P10.2, P10.9: a base that was heard of, and then a mail of the same term that begins ahead of it.
func TestAppendBehindASnap(t *testing.T) {
	for _, x := range []struct{ term, index, entry, more int }{{1, 1, 0, 1}, {3, 5, 1, 1}, {3, 5, 2, 0}, {3, 5, 0, 60}} {
		c := begins(t, 1, 0, 1, 2)
		c.Hear(snap(0, 1, x.term, x.index, x.term, "", 0, 1, 2))
		s := state{term: x.term, vote: -1, index: x.index, past: x.term, voters: names(0, 1, 2)}
		keeps(t, "a base", c, s)
		m := appends(0, 1, x.term, 0, 0, 0, rows(x.index+x.more, none(x.entry))...)
		asks(t, "a mail with another base", c.Hear(m), false, nil, appended(1, 0, x.term, false, x.index-1))
		keeps(t, "a mail with another base", c, s)
		m = appends(0, 1, x.term, 0, 0, 0, append(rows(x.index-1, none(x.entry)), rows(3, none(x.term))...)...)
		asks(t, "a mail with that base", c.Hear(m), true, nil, appended(1, 0, x.term, true, x.index+2))
		s.log = rows(2, none(x.term))
		keeps(t, "a mail with that base", c, s)
	}
}

// P10.9: committed is what Commit says, as far as the mail goes; each entry once.
func TestAppendCommits(t *testing.T) {
	c := loads(t, 0, behind())
	asks(t, "nothing", c.Hear(appends(1, 0, 5, 7, 3, 4)), false, nil, appended(0, 1, 5, true, 7))
	asks(t, "one", c.Hear(appends(1, 0, 5, 7, 3, 5)), false, news(5, change(2, "a")), appended(0, 1, 5, true, 7))
	asks(t, "again", c.Hear(appends(1, 0, 5, 7, 3, 5)), false, nil, appended(0, 1, 5, true, 7))
	asks(t, "less", c.Hear(appends(1, 0, 5, 7, 3, 0)), false, nil, appended(0, 1, 5, true, 7))
	asks(t, "as far as the mail goes", c.Hear(appends(1, 0, 5, 6, 3, most)), false, news(6, change(3, "b")), appended(0, 1, 5, true, 6))
	asks(t, "below the base", c.Hear(appends(1, 0, 5, 1, 1, 7)), false, nil, appended(0, 1, 5, true, 4))
	asks(t, "new ones, too", c.Hear(appends(1, 0, 5, 7, 3, 8, none(4), none(5))), true, news(7, change(3, "c"), none(4)), appended(0, 1, 5, true, 9))
	has(t, "all", c, 1, 8, 0, 1, 2)
	c = loads(t, 0, behind())
	asks(t, "what took another's place", c.Hear(appends(1, 0, 5, 4, 2, 9, none(5))), true, news(5, none(5)), appended(0, 1, 5, true, 5))
}

// P10.9: what is committed stays: nothing is done or answered, not even with what stands ahead of it.
func TestAppendAgainstWhatIsCommitted(t *testing.T) {
	for what, m := range map[string]api.Mail{
		"the last committed one": appends(1, 0, 5, 5, 2, 9, none(5)),
		"a committed one":        appends(1, 0, 5, 4, 2, 9, none(5)),
		"one in a row":           appends(1, 0, 5, 4, 2, 9, none(2), none(5), none(5)),
	} {
		c := loads(t, 0, behind())
		c.Hear(appends(2, 0, 5, 7, 3, 6))
		quiet(t, what, c, 9)
		asksNothing(t, what, c.Hear(m))
		keeps(t, what, c, behind())
		has(t, what, c, 1, 6, 0, 1, 2)
		quiet(t, "the sender is followed", c, 9)
		asks(t, "one behind it", c.Hear(appends(1, 0, 5, 6, 3, 9, none(5))), true, news(7, none(5)), appended(0, 1, 5, true, 7))
	}
	c := loads(t, 0, behind())
	c.Hear(appends(2, 0, 5, 7, 3, 6))
	m := appends(1, 0, 6, 4, 2, 9, none(5))
	asks(t, "of a higher term", c.Hear(m), true, nil)
	s := behind()
	s.term, s.vote = 6, -1
	keeps(t, "of a higher term", c, s)
}

// P10.9: so is more than a log has room for.
func TestAppendBeyondTheRoom(t *testing.T) {
	s := behind()
	s.log = append(s.log, rows(api.MaxList-4, none(5))...)
	c := loads(t, 0, s)
	last := s.index + len(s.log)
	asksNothing(t, "two more", c.Hear(appends(1, 0, 5, last, 5, last, none(5), none(5))))
	asksNothing(t, "many again and two more", c.Hear(appends(1, 0, 5, last-9, 5, last, rows(11, none(5))...)))
	keeps(t, "two more", c, s)
	has(t, "two more", c, 1, 4, 0, 1, 2)
	asks(t, "one more", c.Hear(appends(1, 0, 5, last, 5, 0, change(5, "x"))), true, nil, appended(0, 1, 5, true, last+1))
	asks(t, "others in their place", c.Hear(appends(1, 0, 6, last-1, 5, 0, none(6), none(6))), true, nil, appended(0, 1, 6, true, last+1))
	asksNothing(t, "too many others", c.Hear(appends(1, 0, 6, 5, 2, 0, rows(api.MaxList, none(6))...)))
	asks(t, "as many others", c.Hear(appends(1, 0, 6, 5, 2, 0, rows(api.MaxList-1, none(6))...)), true, nil, appended(0, 1, 6, true, last+1))
	s.term, s.vote, s.log = 6, -1, append(s.log[:1:1], rows(api.MaxList-1, none(6))...)
	keeps(t, "as many others", c, s)
}

// P10.9: voters are those of the last entry that stands.
func TestAppendOfVoters(t *testing.T) {
	c := begins(t, 0, 0, 1, 2)
	c.Hear(appends(1, 0, 1, 0, 0, 0, none(1), voters(1, 0, 1), none(1)))
	has(t, "an entry", c, 1, 0, 0, 1)
	c.Hear(appends(2, 0, 2, 1, 1, 0, none(2)))
	has(t, "it is gone", c, 2, 0, 0, 1, 2)
}

// P10.9: a base that isn't committed takes the place of all up to it.
func TestSnap(t *testing.T) {
	for _, x := range []struct {
		what        string
		index, past int
		stays       []api.Entry
	}{
		{"behind all", 9, 5, nil},
		{"behind all, of a lower term", 8, 0, nil},
		{"the last one", 7, 3, nil},
		{"the last one, of another term", 7, 4, nil},
		{"one in between", 6, 3, entries(change(3, "c"))},
		{"one in between, of another term", 6, 5, nil},
		{"the first one", 5, 2, entries(change(3, "b"), change(3, "c"))},
		{"the first one, of another term", 5, 3, nil},
	} {
		c := loads(t, 0, behind())
		told := []api.News{{Index: x.index, Entry: api.Entry{Text: "new"}, Snap: true}}
		asks(t, x.what, c.Hear(snap(1, 0, 5, x.index, x.past, "new", 3, 4)), true, told, snapped(0, 1, 5, x.index))
		keeps(t, x.what, c, state{term: 5, vote: 2, index: x.index, past: x.past, voters: names(3, 4), text: "new", log: x.stays})
		has(t, x.what, c, 1, x.index, 3, 4)
		asks(t, "again", c.Hear(snap(1, 0, 5, x.index, x.past, "other", 5)), false, nil, snapped(0, 1, 5, x.index))
		asks(t, "and on", c.Hear(appends(1, 0, 5, x.index, x.past, x.index+1, none(5))), true, news(x.index+1, none(5)), appended(0, 1, 5, true, x.index+1))
	}
}

// P10.9: one that is committed changes nothing, and the answer tells what is.
func TestSnapOfWhatIsCommitted(t *testing.T) {
	c := loads(t, 0, behind())
	c.Hear(appends(2, 0, 5, 7, 3, 6))
	for _, x := range [][2]int{{0, 0}, {1, 5}, {4, 2}, {5, 2}, {6, 3}, {6, 5}} {
		asks(t, "what is committed", c.Hear(snap(1, 0, 5, x[0], x[1], "new", 3)), false, nil, snapped(0, 1, 5, 6))
		keeps(t, "what is committed", c, behind())
		has(t, "what is committed", c, 1, 6, 0, 1, 2)
	}
}

// P10.9: an entry of the voters that stays counts; the entry of the mail may be of any term up to the mail's.
func TestSnapOfVoters(t *testing.T) {
	c := loads(t, 0, state{term: 5, vote: 2, voters: names(0), log: entries(none(1), none(2), voters(2, 0, 6), none(5))})
	m := snap(1, 0, 5, 2, 2, strings.Repeat("x", api.MaxText), 0, 1)
	m.Entries[0].Term = 5
	told := []api.News{{Index: 2, Entry: api.Entry{Text: m.Text}, Snap: true}}
	asks(t, "voters behind it", c.Hear(m), true, told, snapped(0, 1, 5, 2))
	keeps(t, "voters behind it", c, state{term: 5, vote: 2, index: 2, past: 2, voters: names(0, 1), text: m.Text, log: entries(voters(2, 0, 6), none(5))})
	has(t, "voters behind it", c, 1, 2, 0, 6)
}

// P10.5, P10.9: what a leader sends as its base is heard.
func TestSnapGoesOver(t *testing.T) {
	c := leads(t, 0, 0, 1)
	offers(t, c, 1, "a")
	agree(c, 0)
	compacts(t, c, 2, "state")
	offers(t, c, 2, names(0, 1, 2))
	x := begins(t, 2, 0, 1)
	m := c.Hear(appended(2, 0, 1, false, 0)).Mails[0]
	w := x.Hear(m)
	asks(t, "a base", w, true, []api.News{{Index: 2, Entry: api.Entry{Text: "state"}, Snap: true}}, snapped(2, 0, 1, 2))
	asksNothing(t, "its answer", c.Hear(w.Mails[0]))
	quiet(t, "a tick", c, 1)
	w = x.Hear(c.Tick().Mails[1])
	asks(t, "what is behind it", w, true, nil, appended(2, 0, 1, true, 3))
	asks(t, "two of three have it", c.Hear(w.Mails[0]), false, news(3, voters(1, 0, 1, 2)))
}
