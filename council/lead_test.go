package council_test

import (
	"slices"
	"strings"
	"testing"

	"lamella/api"
)

// P10.7: with every second tick to all other voters.
func TestBeats(t *testing.T) {
	c := begins(t, 3, 1, 3, 5)
	elects(t, c, 3)
	for range 20 {
		quiet(t, "the first tick", c, 1)
		asks(t, "the second tick", c.Tick(), false, nil, appends(3, 1, 1, 1, 1, 0), appends(3, 5, 1, 1, 1, 0))
	}
}

// P10.7: the ticks of an election that go ahead don't count.
func TestBeatsBehindAnElection(t *testing.T) {
	c := begins(t, 0, 0, 1)
	stands(t, c, 0)
	quiet(t, "an election", c, 3)
	c.Hear(voted(1, 0, 1, true))
	quiet(t, "the first tick", c, 1)
	asks(t, "the second tick", c.Tick(), false, nil, appends(0, 1, 1, 1, 1, 0))
}

// P10.7: a leader sends from behind its last entry on at first, then from where it is told: 64 entries at most.
func TestSending(t *testing.T) {
	c := leadsAgain(t)
	asks(t, "no", c.Hear(appended(1, 0, 4, false, 75)), false, nil, appends(0, 1, 4, 75, 2, 10, none(4)))
	asks(t, "no, further ahead", c.Hear(appended(1, 0, 4, false, 20)), false, nil,
		appends(0, 1, 4, 20, 2, 10, append(rows(55, change(2, "a")), none(4))...))
	asks(t, "no, up to the base", c.Hear(appended(1, 0, 4, false, 10)), false, nil,
		appends(0, 1, 4, 10, 1, 10, rows(64, change(2, "a"))...))
	asks(t, "yes, not at the end", c.Hear(appended(1, 0, 4, true, 74)), false, nil,
		appends(0, 1, 4, 74, 2, 10, change(2, "a"), none(4)))
	quiet(t, "a tick", c, 1)
	asks(t, "to each from its place", c.Tick(), false, nil,
		appends(0, 1, 4, 74, 2, 10, change(2, "a"), none(4)), appends(0, 2, 4, 76, 4, 10))
}

// P10.7: the base goes where the entry ahead is below it; nothing goes at once behind its answer.
func TestSendingTheBase(t *testing.T) {
	c := leadsAgain(t)
	for _, i := range []int{0, 1, 9} {
		asks(t, "no, ahead of the base", c.Hear(appended(1, 0, 4, false, i)), false, nil, snap(0, 1, 4, 10, 1, "base", 0, 1, 2))
	}
	asksNothing(t, "it has the base", c.Hear(snapped(1, 0, 4, 10)))
	quiet(t, "a tick", c, 1)
	asks(t, "from the base on", c.Tick(), false, nil,
		appends(0, 1, 4, 10, 1, 10, rows(64, change(2, "a"))...), appends(0, 2, 4, 76, 4, 10))
	asksNothing(t, "it has more", c.Hear(snapped(1, 0, 4, 70)))
	asksNothing(t, "a late answer takes nothing back", c.Hear(snapped(1, 0, 4, 10)))
	quiet(t, "a tick", c, 1)
	asks(t, "from there on", c.Tick(), false, nil,
		appends(0, 1, 4, 70, 2, 10, append(rows(5, change(2, "a")), none(4))...), appends(0, 2, 4, 76, 4, 10))
}

// P10.7: the base's voters are its own, whatever the log says.
func TestSendingTheBasesVoters(t *testing.T) {
	c := leads(t, 0, 0, 1)
	offers(t, c, 1, "a")
	offers(t, c, 2, names(0, 1, 2))
	agree(c, 0)
	compacts(t, c, 2, "x")
	asks(t, "ahead of the entry", c.Hear(appended(2, 0, 1, false, 0)), false, nil, snap(0, 2, 1, 2, 1, "x", 0, 1))
	compacts(t, c, 3, "y")
	asks(t, "behind the entry", c.Hear(appended(2, 0, 1, false, 0)), false, nil, snap(0, 2, 1, 3, 1, "y", 0, 1, 2))
}

// P10.7: a base that is compacted above where a voter is goes by itself.
func TestSendingBehindCompact(t *testing.T) {
	c := begins(t, 0, 0, 1, 2)
	elects(t, c, 0)
	for range 4 {
		offers(t, c, 1, "a")
	}
	c.Hear(appended(1, 0, 1, false, 0))
	c.Hear(appended(2, 0, 1, true, 5))
	compacts(t, c, 4, "x")
	quiet(t, "a tick", c, 1)
	asks(t, "behind a Compact", c.Tick(), false, nil, snap(0, 1, 1, 4, 1, "x", 0, 1, 2), appends(0, 2, 1, 5, 1, 5))
	asks(t, "just at the base", c.Hear(appended(1, 0, 1, true, 4)), false, nil, appends(0, 1, 1, 4, 1, 5, change(1, "a")))
}

// P10.7: answers count from voters, up to the last entry.
func TestAnswersThatDontCount(t *testing.T) {
	c := leadsAgain(t)
	for _, m := range []api.Mail{
		appended(3, 0, 4, true, 76), appended(3, 0, 4, false, 0), snapped(3, 0, 4, 76),
		appended(1, 0, 4, true, 77), appended(1, 0, 4, false, 77), snapped(1, 0, 4, 77), appended(1, 0, 4, true, most),
	} {
		saysNothing(t, "an answer that doesn't count", c, m)
	}
	quiet(t, "a tick", c, 1)
	asks(t, "nothing is known", c.Tick(), false, nil, appends(0, 1, 4, 76, 4, 10), appends(0, 2, 4, 76, 4, 10))
}

// P10.7: late answers take nothing back of what is known; one that says no has it sent again.
func TestLateAnswers(t *testing.T) {
	c := leadsAgain(t)
	c.Hear(appended(1, 0, 4, false, 70))
	if w := c.Hear(appended(1, 0, 4, true, 76)); len(w.News) != 66 || len(w.Mails) != 0 {
		t.Errorf("%d News, %d mails", len(w.News), len(w.Mails))
	}
	asksNothing(t, "doubled", c.Hear(appended(1, 0, 4, true, 76)))
	asksNothing(t, "late", c.Hear(appended(1, 0, 4, true, 70)))
	asks(t, "a late no", c.Hear(appended(1, 0, 4, false, 74)), false, nil, appends(0, 1, 4, 74, 2, 76, change(2, "a"), none(4)))
	asks(t, "an offer", offers(t, c, 1, "b"), true, nil,
		appends(0, 1, 4, 74, 2, 76, change(2, "a"), none(4), change(4, "b")), appends(0, 2, 4, 76, 4, 76, change(4, "b")))
}

// P10.7: an entry that is offered goes to all.
func TestOffer(t *testing.T) {
	c := leads(t, 1, 0, 1, 4)
	s := state{term: 1, vote: 1, voters: names(0, 1, 4), log: entries(none(1))}
	for kind, text := range []string{"nothing", "a change"} {
		e := api.Entry{Term: 1, Kind: kind, Text: text}
		asks(t, "an offer", offers(t, c, kind, text), true, nil,
			appends(1, 0, 1, 1+kind, 1, 1+kind, e), appends(1, 4, 1, 1+kind, 1, 1+kind, e))
		s.log = append(s.log, e)
		keeps(t, "an offer", c, s)
		asks(t, "one has it", c.Hear(appended(4, 1, 1, true, 2+kind)), false, news(2+kind, e))
		asksNothing(t, "the other has it", c.Hear(appended(0, 1, 1, true, 2+kind)))
	}
	offers(t, c, 1, strings.Repeat("x", 4096))
	offers(t, c, 1, "")
	has(t, "offers", c, 1, 3, 0, 1, 4)
}

// P10.7: what isn't offered by a leader, or can't be an entry.
func TestOfferOfOthers(t *testing.T) {
	long := strings.Repeat("x", 4097)
	bad := []struct {
		kind int
		text string
	}{{-1, ""}, {3, ""}, {1 << 32, ""}, {0, long}, {1, long}, {2, ""}, {2, names(1, 0)}, {2, names(7)}, {2, long}}
	follower := begins(t, 0, 0, 1)
	standing := begins(t, 0, 0, 1)
	stands(t, standing, 0)
	leader := leads(t, 0, 0, 1)
	for _, x := range bad {
		refuses(t, "one that follows", follower, x.kind, x.text, api.ErrNone)
		refuses(t, "one that stands", standing, x.kind, x.text, api.ErrNone)
		refuses(t, "a leader", leader, x.kind, x.text, api.ErrArg)
	}
	refuses(t, "one that follows", follower, 1, "a", api.ErrNone)
	refuses(t, "one that stands", standing, 2, names(0), api.ErrNone)
}

// P10.7: a full log takes no more; other errors go ahead.
func TestOfferToAFullLog(t *testing.T) {
	c := leads(t, 0, 0, 1)
	for c.Last() < api.MaxList {
		offers(t, c, 1, "a")
	}
	for kind := range 2 {
		refuses(t, "a full log", c, kind, "a", api.ErrBig)
	}
	refuses(t, "a full log, voters", c, 2, names(0), api.ErrBig)
	refuses(t, "a full log, other voters", c, 2, names(2), api.ErrArg)
	refuses(t, "a full log, no entry", c, 3, "", api.ErrArg)
	agree(c, 0)
	has(t, "a full log", c, 0, api.MaxList, 0, 1)
	compacts(t, c, 1, "")
	offers(t, c, 2, names(0, 1, 2))
	refuses(t, "a full log again, two at once", c, 2, names(0, 1), api.ErrDown)
	refuses(t, "a full log again", c, 1, "a", api.ErrBig)
}

// P10.7: voters change one by one, when an entry of the own term, and all of Kind 2, are committed.
func TestOfferOfVoters(t *testing.T) {
	c := begins(t, 0, 0, 1, 2)
	elects(t, c, 0)
	for _, l := range [][]int{{0, 1}, {0, 1, 2}, {4}} {
		refuses(t, "none of its own term is committed", c, 2, names(l...), api.ErrDown)
	}
	agree(c, 0)
	for _, l := range [][]int{{0, 1, 2}, {0}, {0, 1, 3}, {3}, {0, 1, 2, 3, 4}, {1}, {4, 5}} {
		refuses(t, "not by one node", c, 2, names(l...), api.ErrArg)
	}
	asks(t, "one more", offers(t, c, 2, names(0, 1, 2, 5)), true, nil,
		appends(0, 1, 1, 1, 1, 1, voters(1, 0, 1, 2, 5)), appends(0, 2, 1, 1, 1, 1, voters(1, 0, 1, 2, 5)), appends(0, 5, 1, 2, 1, 1))
	has(t, "one more", c, 0, 1, 0, 1, 2, 5)
	refuses(t, "one isn't committed", c, 2, names(0, 1, 2), api.ErrDown)
	refuses(t, "one isn't committed, nor by one node", c, 2, names(6), api.ErrDown)
	offers(t, c, 1, "a")
	asksNothing(t, "two of four", c.Hear(appended(1, 0, 1, true, 3)))
	refuses(t, "two of four", c, 2, names(0, 1, 2), api.ErrDown)
	asks(t, "three of four", c.Hear(appended(2, 0, 1, true, 2)), false, news(2, voters(1, 0, 1, 2, 5)), appends(0, 2, 1, 2, 1, 2, change(1, "a")))
	asks(t, "one less", offers(t, c, 2, names(0, 2, 5)), true, nil,
		appends(0, 2, 1, 2, 1, 2, change(1, "a"), voters(1, 0, 2, 5)), appends(0, 5, 1, 2, 1, 2, change(1, "a"), voters(1, 0, 2, 5)))
	saysNothing(t, "one that left", c, appended(1, 0, 1, true, 4))
	asks(t, "two of three", c.Hear(appended(5, 0, 1, true, 4)), false, news(3, change(1, "a"), voters(1, 0, 2, 5)))
}

// P10.7: an entry of the own term that is in the base is committed, too.
func TestOfferOfVotersBehindCompact(t *testing.T) {
	c := leads(t, 0, 0, 1)
	compacts(t, c, 1, "")
	offers(t, c, 2, names(0, 1, 2))
	agree(c, 0)
	compacts(t, c, 2, "")
	offers(t, c, 2, names(0, 1))
}

// P10.7: one that leaves and comes again is known anew.
func TestOneThatComesAgain(t *testing.T) {
	c := leads(t, 0, 0, 1, 2)
	offers(t, c, 2, names(0, 1))
	agree(c, 0)
	offers(t, c, 1, "a")
	asks(t, "one that comes again", offers(t, c, 2, names(0, 1, 2)), true, nil,
		appends(0, 1, 1, 2, 1, 2, change(1, "a"), voters(1, 0, 1, 2)), appends(0, 2, 1, 4, 1, 2))
	asks(t, "it is told", c.Hear(appended(2, 0, 1, false, 1)), false, nil,
		appends(0, 2, 1, 1, 1, 2, voters(1, 0, 1), change(1, "a"), voters(1, 0, 1, 2)))
	asks(t, "it has it", c.Hear(appended(2, 0, 1, true, 4)), false, news(3, change(1, "a"), voters(1, 0, 1, 2)))
}

// P10.8: all who have an entry: more than half is needed, of voters alone.
func TestCommitmentByMajority(t *testing.T) {
	for bits := 1; bits < 128; bits++ {
		nodes := subset(bits)
		self := nodes[bits%len(nodes)]
		for _, yes := range []int{0, 1, 2, 5, 21, 42, 64, 99, 120, 126, 127} {
			c := begins(t, self, nodes...)
			elects(t, c, self)
			n := 1
			for _, v := range subset(yes) {
				c.Hear(appended(v, self, 1, true, 1))
				c.Hear(appended(v, self, 1, true, 1))
				if v != self && slices.Contains(nodes, v) {
					n++
				}
			}
			if (c.Told() == 1) != (2*n > len(nodes)) {
				t.Fatalf("%d of %v: told %d", n, nodes, c.Told())
			}
		}
	}
}

// P10.8: as far as a majority has it, each once, in order.
func TestCommitmentUpTo(t *testing.T) {
	c := leads(t, 0, 0, 1, 2, 3, 4)
	for _, s := range []string{"a", "b", "c", "d"} {
		offers(t, c, 1, s)
	}
	sends := func(to, index, commit int, l ...string) api.Mail {
		m := appends(0, to, 1, index, 1, commit)
		for _, s := range l {
			m.Entries = append(m.Entries, change(1, s))
		}
		return m
	}
	asksNothing(t, "one has all", c.Hear(appended(1, 0, 1, true, 5)))
	asks(t, "another has two", c.Hear(appended(2, 0, 1, true, 3)), false, news(2, change(1, "a"), change(1, "b")), sends(2, 3, 3, "c", "d"))
	asks(t, "a third has three", c.Hear(appended(3, 0, 1, true, 4)), false, news(4, change(1, "c")), sends(3, 4, 4, "d"))
	asks(t, "a fourth has two", c.Hear(appended(4, 0, 1, true, 3)), false, nil, sends(4, 3, 4, "c", "d"))
	asks(t, "now it has all", c.Hear(appended(4, 0, 1, true, 5)), false, news(5, change(1, "d")))
}

// P10.8: what a majority has of lower terms isn't committed by that.
func TestCommitmentOfLowerTerms(t *testing.T) {
	c := loads(t, 0, state{term: 2, vote: -1, voters: names(0, 1, 2), log: entries(change(1, "a"), change(2, "b"))})
	elects(t, c, 0)
	for _, n := range []int{1, 2} {
		asks(t, "all have the lower terms", c.Hear(appended(n, 0, 3, true, 2)), false, nil, appends(0, n, 3, 2, 2, 0, none(3)))
	}
	asks(t, "one has its own", c.Hear(appended(2, 0, 3, true, 3)), false, news(1, change(1, "a"), change(2, "b"), none(3)))
}

// P10.8: MailSnapped counts, too.
func TestCommitmentBySnapped(t *testing.T) {
	c := begins(t, 0, 0, 1, 2)
	elects(t, c, 0)
	asks(t, "a base", c.Hear(snapped(2, 0, 1, 1)), false, news(1, none(1)))
}

// P10.8: fewer voters may be enough for what was offered ahead of that.
func TestCommitmentByFewerVoters(t *testing.T) {
	c := leads(t, 0, 0, 1, 2, 3)
	offers(t, c, 1, "a")
	c.Hear(appended(1, 0, 1, true, 2))
	has(t, "two of four", c, 0, 1, 0, 1, 2, 3)
	l := entries(change(1, "a"), voters(1, 0, 1, 2))
	asks(t, "two of three", offers(t, c, 2, names(0, 1, 2)), true, news(2, change(1, "a")), appends(0, 1, 1, 2, 1, 2, l[1]), appends(0, 2, 1, 1, 1, 2, l...))
	c = leads(t, 0, 0, 1)
	offers(t, c, 1, "a")
	asks(t, "one of one", offers(t, c, 2, names(0)), true, news(2, change(1, "a"), voters(1, 0)))
}

// P10.8: a leader that has left leads till that is committed, and doesn't count.
func TestLeaderThatLeaves(t *testing.T) {
	c := leads(t, 0, 0, 1, 2)
	asks(t, "it leaves", offers(t, c, 2, names(1, 2)), true, nil, appends(0, 1, 1, 1, 1, 1, voters(1, 1, 2)), appends(0, 2, 1, 1, 1, 1, voters(1, 1, 2)))
	has(t, "it leaves", c, 0, 1, 1, 2)
	offers(t, c, 1, "a")
	asks(t, "one of two", c.Hear(appended(1, 0, 1, true, 2)), false, nil, appends(0, 1, 1, 2, 1, 1, change(1, "a")))
	has(t, "one of two", c, 0, 1, 1, 2)
	asks(t, "two of two", c.Hear(appended(2, 0, 1, true, 2)), false, news(2, voters(1, 1, 2)))
	has(t, "it has left", c, -1, 2, 1, 2)
	keeps(t, "it has left", c, state{term: 1, vote: 0, voters: names(0, 1, 2), log: entries(none(1), voters(1, 1, 2), change(1, "a"))})
	refuses(t, "it has left", c, 1, "b", api.ErrNone)
	quiet(t, "it has left", c, 100)
	asks(t, "it follows", c.Hear(appends(1, 0, 2, 3, 1, 3, none(2))), true, news(3, change(1, "a")), appended(0, 1, 2, true, 4))
}

// P10.8: the last two: one leaves the other alone.
func TestLeaderThatLeavesOne(t *testing.T) {
	c := leads(t, 0, 0, 1)
	offers(t, c, 2, names(1))
	has(t, "it leaves", c, 0, 1, 1)
	asks(t, "the other has it", c.Hear(appended(1, 0, 1, true, 2)), false, news(2, voters(1, 1)))
	has(t, "it has left", c, -1, 2, 1)
	asksNothing(t, "its election is over", c.Hear(voted(1, 0, 1, true)))
	has(t, "its election is over", c, -1, 2, 1)
}

// P10.10: what may be let go.
func TestCompact(t *testing.T) {
	c := leads(t, 0, 0, 1)
	offers(t, c, 1, "a")
	offers(t, c, 2, names(0, 1, 2))
	offers(t, c, 1, "b")
	agree(c, 0)
	offers(t, c, 1, "c")
	compacts(t, c, 2, "first")
	s := state{term: 1, vote: 0, index: 2, past: 1, voters: names(0, 1), text: "first", log: entries(voters(1, 0, 1, 2), change(1, "b"), change(1, "c"))}
	keeps(t, "ahead of the voters", c, s)
	has(t, "ahead of the voters", c, 0, 4, 0, 1, 2)
	for _, i := range []int{-1, 0, 1, 2, 5, 6, 1 << 62, -1 << 63} {
		for _, text := range []string{"", strings.Repeat("x", api.MaxText+1)} {
			if w, e := c.Compact(i, text); e != api.ErrArg || w.Keep {
				t.Errorf("at %d: error %d", i, e)
			}
		}
	}
	if w, e := c.Compact(3, strings.Repeat("x", api.MaxText+1)); e != api.ErrBig || w.Keep || len(w.Mails)+len(w.News) > 0 {
		t.Errorf("a text too long: error %d", e)
	}
	keeps(t, "behind errors", c, s)
	compacts(t, c, 4, strings.Repeat("x", api.MaxText))
	s = state{term: 1, vote: 0, index: 4, past: 1, voters: names(0, 1, 2), text: strings.Repeat("x", api.MaxText), log: s.log[2:]}
	keeps(t, "behind the voters", c, s)
	has(t, "behind the voters", c, 0, 4, 0, 1, 2)
	agree(c, 0)
	compacts(t, c, 5, "")
	s.index, s.text, s.log = 5, "", nil
	keeps(t, "all of it", c, s)
	asks(t, "and on", offers(t, c, 1, "d"), true, nil, appends(0, 1, 1, 5, 1, 5, change(1, "d")), appends(0, 2, 1, 5, 1, 5, change(1, "d")))
}

// P10.10: the base's term is its entry's; one that follows may do it, too, one that has come back not ahead of News.
func TestCompactOfOneThatFollows(t *testing.T) {
	s := state{term: 6, vote: -1, index: 2, past: 1, voters: names(0, 1), log: entries(none(2), none(4), none(4), none(6))}
	c := loads(t, 0, s)
	if w, e := c.Compact(3, ""); e != api.ErrArg || w.Keep {
		t.Errorf("nothing is told: error %d", e)
	}
	c.Hear(appends(1, 0, 6, 6, 6, 5))
	compacts(t, c, 5, "x")
	keeps(t, "one that follows", c, state{term: 6, vote: -1, index: 5, past: 4, voters: names(0, 1), text: "x", log: entries(none(6))})
}

// P10.2, P10.10: a base above the greatest number could not be loaded: entries there may be told, and stay in the log.
func TestCompactAboveAllNumbers(t *testing.T) {
	c := begins(t, 0, 0, 1)
	c.Hear(snap(1, 0, 1, most-1, 1, "base", 0))
	elects(t, c, 0)
	offers(t, c, 1, "a")
	offers(t, c, 1, "b")
	has(t, "entries above all numbers", c, 0, most+2, 0)
	s := state{term: 2, vote: 0, index: most - 1, past: 1, voters: names(0), text: "base", log: entries(none(2), change(2, "a"), change(2, "b"))}
	keeps(t, "entries above all numbers", c, s)
	for _, i := range []int{most + 1, most + 2, most + 3} {
		for _, text := range []string{"x", strings.Repeat("x", api.MaxText+1)} {
			if w, e := c.Compact(i, text); e != api.ErrArg || w.Keep {
				t.Errorf("at %d: error %d", i, e)
			}
		}
	}
	keeps(t, "a base above all numbers", c, s)
	compacts(t, c, most, "x")
	s.index, s.past, s.text, s.log = most, 2, "x", s.log[1:]
	keeps(t, "the greatest number", c, s)
}
