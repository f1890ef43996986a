package council_test

import (
	"strconv"
	"testing"

	"lamella/api"
	"lamella/council"
)

// P10.6: each voter begins an election with its own number of ticks, and the next one with as many more.
func TestElectionBegins(t *testing.T) {
	for self := range 7 {
		s := state{term: 2, vote: 3, index: 8, past: 1, voters: names(0, 1, 2, 3, 4, 5, 6), log: entries(none(1), change(2, "a"))}
		c := loads(t, self, s)
		for term := 3; term < 6; term++ {
			var sent []api.Mail
			for n := range 7 {
				if n != self {
					sent = append(sent, vote(self, n, term, 10, 2))
				}
			}
			asks(t, "node "+strconv.Itoa(self), stands(t, c, self), true, nil, sent...)
			s.term, s.vote = term, self
			keeps(t, "one that stands", c, s)
			has(t, "one that stands", c, -1, 8, 0, 1, 2, 3, 4, 5, 6)
		}
	}
}

// P10.6: with no entries it tells the base's index and term.
func TestElectionTellsTheBase(t *testing.T) {
	c := loads(t, 1, state{term: 5, vote: -1, index: 7, past: 4, voters: names(1, 3)})
	asks(t, "only a base", stands(t, c, 1), true, nil, vote(1, 3, 6, 7, 4))
}

// P10.6: who isn't a voter begins none.
func TestNoVoterBeginsNone(t *testing.T) {
	quiet(t, "no voter", begins(t, 0, 1, 2), 100)
	quiet(t, "no voter by the base", loads(t, 2, state{term: 1, vote: -1, index: 1, past: 1, voters: names(0, 1)}), 100)
	c := begins(t, 2, 0, 1, 2)
	c.Hear(appends(0, 2, 1, 0, 0, 2, none(1), voters(1, 0, 1)))
	has(t, "one that left", c, 0, 2, 0, 1)
	quiet(t, "no voter by an entry that is committed", c, 100)
	c.Hear(appends(0, 2, 1, 2, 1, 2, voters(1, 0, 1, 3)))
	quiet(t, "nor by one behind that", c, 100)
}

// P10.6: one that has left by an entry that isn't committed, for all it knows, may stand, and is no voter then.
func TestOneThatLeavesBegins(t *testing.T) {
	c := begins(t, 2, 0, 1, 2)
	c.Hear(appends(0, 2, 1, 0, 0, 1, none(1), voters(1, 0, 1)))
	has(t, "one that leaves", c, 0, 1, 0, 1)
	asks(t, "one that leaves", stands(t, c, 2), true, nil, vote(2, 0, 2, 2, 1), vote(2, 1, 2, 2, 1))
	keeps(t, "one that leaves", c, state{term: 2, vote: 2, voters: names(0, 1, 2), log: entries(none(1), voters(1, 0, 1))})
	asksNothing(t, "its own vote doesn't count", c.Hear(voted(0, 2, 2, true)))
	c.Hear(voted(1, 2, 2, true))
	if !c.Leads() {
		t.Error("all voters voted for it, and it doesn't lead")
	}
	c = loads(t, 2, state{term: 1, vote: -1, voters: names(2), log: entries(none(1), voters(1, 2, 3), voters(1, 3))})
	asks(t, "alone but for an entry", stands(t, c, 2), true, nil, vote(2, 3, 2, 3, 1))
}

// P10.6: it was a voter by an entry that isn't committed, and isn't one any more by another such one.
func TestOneThatCameAndLeavesBegins(t *testing.T) {
	s := state{term: 1, vote: -1, voters: names(0), log: entries(none(1), voters(1, 0, 2), none(1), voters(1, 0), change(1, "a"))}
	asks(t, "one that came and leaves", stands(t, loads(t, 2, s), 2), true, nil, vote(2, 0, 2, 5, 1))
	quiet(t, "one that never came", loads(t, 3, s), 100)
	c := loads(t, 2, s)
	c.Hear(appends(0, 2, 1, 5, 1, 3))
	asks(t, "one that came for sure and leaves", stands(t, c, 2), true, nil, vote(2, 0, 2, 5, 1))
	c = loads(t, 2, s)
	c.Hear(appends(0, 2, 1, 5, 1, 4))
	quiet(t, "one that left for sure", c, 100)
}

// P10.6: the clock begins anew with a leader's mail of the term, and with a vote that was given, with nothing else.
func TestClock(t *testing.T) {
	for what, x := range map[string]struct {
		m    api.Mail
		anew bool
	}{
		"MailAppend":                  {appends(0, 1, 3, 2, 2, 0), true},
		"MailAppend of a higher term": {appends(0, 1, 4, 2, 2, 0), true},
		"MailAppend that doesn't fit": {appends(0, 1, 3, 9, 3, 0), true},
		"MailAppend of a lower term":  {appends(0, 1, 2, 2, 2, 0), false},
		"MailSnap":                    {snap(0, 1, 3, 1, 1, "", 0, 1, 2), true},
		"MailSnap of a lower term":    {snap(0, 1, 2, 1, 1, "", 0, 1, 2), false},
		"MailVote":                    {vote(0, 1, 3, 2, 2), true},
		"MailVote of a higher term":   {vote(0, 1, 4, 2, 2), true},
		"MailVote that is refused":    {vote(0, 1, 4, 1, 2), false},
		"MailVote of a lower term":    {vote(0, 1, 2, 2, 2), false},
		"MailVoted":                   {voted(0, 1, 3, true), false},
		"MailAppended":                {appended(0, 1, 4, true, 1), false},
	} {
		c := loads(t, 1, state{term: 3, vote: -1, voters: names(0, 1, 2), log: entries(none(1), none(2))})
		quiet(t, what, c, 12)
		c.Hear(x.m)
		if x.anew {
			quiet(t, what, c, 12)
		}
		if w := c.Tick(); len(w.Mails) != 2 || w.Mails[0].Kind != api.MailVote {
			t.Errorf("%s: no election when it is due", what)
		}
	}
}

// P10.6: who leads, or has heard of its leader, leaves a MailVote out, whatever its term.
func TestVoteIsLeftOut(t *testing.T) {
	c := leads(t, 0, 0, 1, 2)
	for _, term := range []int{1, 2, most} {
		saysNothing(t, "a leader", c, vote(1, 0, term, 9, 1))
	}
	for range 50 {
		c.Tick()
	}
	saysNothing(t, "a leader whose clock is old", c, vote(1, 0, 5, 9, 1))

	c = begins(t, 5, 0, 1, 5)
	c.Hear(appends(0, 5, 2, 0, 0, 0))
	for range 9 {
		saysNothing(t, "one that has a leader", c, vote(1, 5, 3, 9, 2))
		quiet(t, "one that has a leader", c, 1)
	}
	saysNothing(t, "one that has a leader", c, vote(1, 5, 3, 9, 2))
	quiet(t, "one that has a leader", c, 1)
	asks(t, "one whose leader is silent", c.Hear(vote(1, 5, 3, 9, 2)), true, nil, voted(5, 1, 3, true))
	has(t, "one whose leader is silent", c, -1, 0, 0, 1, 5)
}

// P10.6: a leader that is silent stays one, if the MailVote isn't of a higher term.
func TestVoteOfTheLeadersTerm(t *testing.T) {
	c := begins(t, 5, 0, 1, 5)
	c.Hear(appends(0, 5, 2, 0, 0, 0))
	quiet(t, "a silent leader", c, 10)
	asks(t, "a lower term", c.Hear(vote(1, 5, 1, 9, 1)), false, nil, voted(5, 1, 2, false))
	has(t, "a lower term", c, 0, 0, 0, 1, 5)
	asks(t, "the same term", c.Hear(vote(1, 5, 2, 9, 1)), true, nil, voted(5, 1, 2, true))
	has(t, "the same term", c, 0, 0, 0, 1, 5)
}

// P10.6: one vote in a term; doubled mails get the same answer.
func TestOneVoteInATerm(t *testing.T) {
	c := begins(t, 0, 0, 1, 2)
	asks(t, "the first", c.Hear(vote(1, 0, 4, 0, 0)), true, nil, voted(0, 1, 4, true))
	keeps(t, "the first", c, state{term: 4, vote: 1, voters: names(0, 1, 2)})
	asks(t, "the second", c.Hear(vote(2, 0, 4, 9, 4)), false, nil, voted(0, 2, 4, false))
	asks(t, "the first again", c.Hear(vote(1, 0, 4, 0, 0)), false, nil, voted(0, 1, 4, true))
	c = loads(t, 0, state{term: 4, vote: 1, voters: names(0, 1, 2)})
	asks(t, "behind a crash", c.Hear(vote(2, 0, 4, 9, 4)), false, nil, voted(0, 2, 4, false))
	asks(t, "in the next term", c.Hear(vote(2, 0, 5, 9, 4)), true, nil, voted(0, 2, 5, true))

	c = begins(t, 0, 0, 1, 2)
	stands(t, c, 0)
	asks(t, "one that stands", c.Hear(vote(1, 0, 1, 9, 1)), false, nil, voted(0, 1, 1, false))
	asks(t, "one that stands, a higher term", c.Hear(vote(1, 0, 2, 9, 1)), true, nil, voted(0, 1, 2, true))
	asksNothing(t, "its election is over", c.Hear(voted(2, 0, 1, true)))
}

// P10.6: a vote goes to none whose log ends ahead of one's own; a term is taken on all the same.
func TestVoteByLogs(t *testing.T) {
	for _, s := range []state{
		{term: 5, vote: -1, index: 3, past: 2, voters: names(0, 1, 2), log: entries(none(2), none(4))},
		{term: 5, vote: -1, index: 5, past: 4, voters: names(0, 1, 2)},
	} {
		for _, x := range []struct {
			index, past int
			ok          bool
		}{
			{5, 4, true}, {6, 4, true}, {most, 4, true}, {0, 5, true}, {4, 5, true}, {9, 5, true},
			{4, 4, false}, {0, 4, false}, {5, 3, false}, {9, 3, false}, {most, 0, false}, {0, 0, false},
		} {
			c := loads(t, 0, s)
			asks(t, "of the term", c.Hear(vote(1, 0, 5, x.index, x.past)), x.ok, nil, voted(0, 1, 5, x.ok))
			c = loads(t, 0, s)
			asks(t, "of a higher term", c.Hear(vote(1, 0, 7, x.index, x.past)), true, nil, voted(0, 1, 7, x.ok))
			want := s
			want.term = 7
			if x.ok {
				want.vote = 1
			}
			keeps(t, "of a higher term", c, want)
			c = loads(t, 0, s)
			asks(t, "of a lower term", c.Hear(vote(1, 0, 4, x.index, min(x.past, 4))), false, nil, voted(0, 1, 5, false))
		}
	}
}

// P10.6: also one that is no voter votes, and for one that is none.
func TestVoteOfNoVoter(t *testing.T) {
	asks(t, "no voter", begins(t, 3, 0, 1).Hear(vote(0, 3, 1, 0, 0)), true, nil, voted(3, 0, 1, true))
	asks(t, "for no voter", begins(t, 0, 0, 1).Hear(vote(3, 0, 1, 0, 0)), true, nil, voted(0, 3, 1, true))
}

// P10.6, P10.3: all voters, and all who vote: more than half is needed, of voters alone, each once.
func TestMajority(t *testing.T) {
	for bits := 1; bits < 128; bits++ {
		nodes := subset(bits)
		self := nodes[bits%len(nodes)]
		for yes := range 128 {
			c := begins(t, self, nodes...)
			stands(t, c, self)
			n := 1
			for _, v := range subset(yes) {
				c.Hear(voted(v, self, 1, true))
				c.Hear(voted(v, self, 1, true))
				if v != self && bits>>v&1 == 1 {
					n++
				}
			}
			for v := range 7 {
				c.Hear(voted(v, self, 1, false))
			}
			if c.Leads() != (2*n > len(nodes)) {
				t.Fatalf("%d of %v: leads %v", n, nodes, c.Leads())
			}
		}
	}
}

// P10.6: votes of another election don't count.
func TestVotesOfAnotherElection(t *testing.T) {
	c := begins(t, 0, 0, 1, 2, 3, 4)
	stands(t, c, 0)
	asksNothing(t, "one of two", c.Hear(voted(1, 0, 1, true)))
	stands(t, c, 0)
	asksNothing(t, "of the term ahead", c.Hear(voted(3, 0, 1, true)))
	asksNothing(t, "the first of this one", c.Hear(voted(2, 0, 2, true)))
	if c.Leads() {
		t.Error("it leads by votes of two elections")
	}
	c.Hear(voted(3, 0, 2, true))
	if !c.Leads() {
		t.Error("it doesn't lead by three of five")
	}
}

// P10.6: who follows another one in the term doesn't lead in it.
func TestElectionIsOver(t *testing.T) {
	for _, m := range []api.Mail{appends(1, 0, 1, 0, 0, 0), snap(1, 0, 1, 1, 1, "", 0, 1, 2)} {
		c := begins(t, 0, 0, 1, 2)
		stands(t, c, 0)
		c.Hear(m)
		asksNothing(t, "a late vote", c.Hear(voted(2, 0, 1, true)))
		if c.Leads() || c.Leader() != 1 {
			t.Errorf("leads %v, leader %d", c.Leads(), c.Leader())
		}
	}
}

// Example 1, P10.6: a voter alone leads with its ticks, and tells what is offered.
func TestAlone(t *testing.T) {
	for self := range 7 {
		c := begins(t, self, self)
		asks(t, "alone", stands(t, c, self), true, news(1, none(1)))
		keeps(t, "alone", c, state{term: 1, vote: self, voters: names(self), log: entries(none(1))})
		has(t, "alone", c, self, 1, self)
		if !c.Leads() {
			t.Error("it doesn't lead")
		}
		asks(t, "an offer", offers(t, c, 1, "a"), true, news(2, change(1, "a")))
		quiet(t, "a leader alone", c, 50)
	}
}

// P10.6: behind a crash all that is kept is told anew from the base on.
func TestAloneAgain(t *testing.T) {
	s := state{term: 4, vote: 0, index: 5, past: 3, voters: names(0), log: entries(change(3, "a"), change(4, "b"))}
	asks(t, "alone again", stands(t, loads(t, 0, s), 0), true, news(6, change(3, "a"), change(4, "b"), none(5)))
}

// P10.6: a log that has no room for more: it doesn't lead, till there is room.
func TestElectionWithAFullLog(t *testing.T) {
	s := state{term: 1, vote: -1, voters: names(0, 1, 2), log: rows(api.MaxList-1, none(1))}
	c := loads(t, 0, s)
	elects(t, c, 0)
	if c.Last() != api.MaxList {
		t.Errorf("the last one is %d", c.Last())
	}
	s.log = append(s.log, none(1))
	c = loads(t, 0, s)
	c.Hear(appends(1, 0, 1, api.MaxList, 1, 7))
	stands(t, c, 0)
	asksNothing(t, "a full log", c.Hear(voted(1, 0, 2, true)))
	asksNothing(t, "a full log", c.Hear(voted(2, 0, 2, true)))
	has(t, "a full log", c, -1, 7, 0, 1, 2)
	compacts(t, c, 1, "")
	asks(t, "a log with room", c.Hear(voted(2, 0, 2, true)), true, nil,
		appends(0, 1, 2, api.MaxList+1, 2, 7), appends(0, 2, 2, api.MaxList+1, 2, 7))

	s.voters = names(0)
	asks(t, "alone with a full log", stands(t, loads(t, 0, s), 0), true, nil)
}

// P10.2, P10.6: in the last term that may be kept one may lead, but behind it there is no election.
func TestElectionInTheLastTerm(t *testing.T) {
	for _, nodes := range [][]int{{0}, {0, 1, 2}} {
		c := loads(t, 0, state{term: most - 1, vote: -1, past: most - 1, voters: names(nodes...)})
		elects(t, c, 0)
		keeps(t, "a leader of the last term", c, state{term: most, vote: 0, past: most - 1, voters: names(nodes...), log: entries(none(most))})
		offers(t, c, 1, "a")
	}
	s := state{term: most, vote: -1, voters: names(0), log: entries(none(most))}
	c := loads(t, 0, s)
	quiet(t, "alone in the last term", c, 100)
	keeps(t, "alone in the last term", c, s)

	c = begins(t, 0, 0, 1, 2)
	asks(t, "a vote in the last term", c.Hear(vote(1, 0, most, 0, 0)), true, nil, voted(0, 1, most, true))
	quiet(t, "one that voted in the last term", c, 100)
	keeps(t, "one that voted in the last term", c, state{term: most, vote: 1, voters: names(0, 1, 2)})
	asks(t, "a leader of the last term", c.Hear(appends(1, 0, most, 0, 0, 1, none(most))), true, news(1, none(most)), appended(0, 1, most, true, 1))
	quiet(t, "one that follows in the last term", c, 100)

	c = begins(t, 0, 0, 1, 2)
	stands(t, c, 0)
	asks(t, "one that stands hears of the last term", c.Hear(voted(1, 0, most, false)), true, nil)
	quiet(t, "one that stands hears of the last term", c, 100)
	keeps(t, "one that stands hears of the last term", c, state{term: most, vote: -1, voters: names(0, 1, 2)})
}

// P10.6: who leads by a majority puts an entry behind its log, once.
func TestLeaderBegins(t *testing.T) {
	s := state{term: 3, vote: -1, index: 4, past: 2, voters: names(0, 1, 2), log: entries(change(2, "a"), change(3, "b"))}
	c := loads(t, 0, s)
	stands(t, c, 0)
	asks(t, "a leader begins", c.Hear(voted(2, 0, 4, true)), true, nil, appends(0, 1, 4, 7, 4, 4), appends(0, 2, 4, 7, 4, 4))
	s.term, s.vote, s.log = 4, 0, append(s.log, none(4))
	keeps(t, "a leader begins", c, s)
	has(t, "a leader begins", c, 0, 4, 0, 1, 2)
	saysNothing(t, "another vote", c, voted(1, 0, 4, true))
}

// leadsAgain is a leader of the term 4 that stands behind a base, 65 entries of the term 2 and one of its own.
func leadsAgain(t *testing.T) *council.Council {
	t.Helper()
	c := loads(t, 0, state{term: 3, vote: -1, index: 10, past: 1, voters: names(0, 1, 2), text: "base", log: rows(65, change(2, "a"))})
	elects(t, c, 0)
	return c
}
