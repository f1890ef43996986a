package node_test

import (
	"math"
	"slices"
	"testing"

	"lamella/api"
	"lamella/atlas"
	"lamella/node"
)

// P13.4: News of the council are applied one by one; those that the map refuses, and those that are no changes, change nothing.
func TestNewsChangeTheMap(t *testing.T) {
	n, _ := begins(t, 2, three())
	append1(n, 2, 0, api.Entry{Term: 1}, change(split(1, 20)), change(settle()), change(split(7, 3)), api.Entry{Term: 1, Kind: 1, Text: "no change"}, api.Entry{Term: 1, Kind: 0, Text: atlas.Lay(split(1, 2))})
	has(t, "what is refused", n, atFirst(t, three()))
	append1(n, 2, 6, change(split(1, 4)))
	has(t, "a split", n, behind(t, three(), split(1, 4)))
	append1(n, 2, 7, change(merge(2, 3)), change(settle()), change(merge(2, 3)), api.Entry{Term: 1, Kind: 2, Text: "\x00\x01"})
	has(t, "all of it", n, behind(t, three(), split(1, 4), settle(), merge(2, 3)))
}

// P13.4: what isn't agreed on changes nothing yet.
func TestNewsThatAreNone(t *testing.T) {
	n, _ := begins(t, 2, three())
	m := api.Mail{Kind: api.MailAppend, From: 1, To: 2, Term: 1, Entries: []api.Entry{{Term: 1}, change(split(1, 4))}, Commit: 1}
	n.Hear(m)
	has(t, "an entry that isn't agreed on", n, atFirst(t, three()))
	m.Commit = 2
	n.Hear(m)
	has(t, "now it is", n, behind(t, three(), split(1, 4)))
}

// snap is a base that the leader 1 of the term 1 tells the node 2.
func snap(index int, text string) api.Mail {
	return api.Mail{Kind: api.MailSnap, From: 1, To: 2, Term: 1, Index: index, Past: 1, Entries: []api.Entry{{Term: 1, Kind: 2, Text: "\x00\x01\x02"}}, Text: text}
}

// P13.4: the map begins as a base says, and goes on from there; also behind a crash.
func TestBase(t *testing.T) {
	n, d := begins(t, 2, three())
	at := behind(t, three(), split(1, 4), settle())
	n.Hear(snap(9, string(at.Encode())))
	has(t, "a base", n, at)
	for range 2 {
		append1(n, 2, 9, change(merge(2, 3)))
		has(t, "behind a base", n, behind(t, three(), split(1, 4), settle(), merge(2, 3)))
		d.Crash(0)
		n = opens(t, d, 2)
	}
	append1(n, 2, 10, change(settle()), change(renew(4)))
	has(t, "behind a base and a crash", n, behind(t, three(), split(1, 4), settle(), merge(2, 3), settle(), renew(4)))
}

// P13.4: a base that is no map of as many blocks changes nothing; what was agreed on ahead of it stays, also behind a crash.
func TestBaseThatIsNone(t *testing.T) {
	other := three()
	other.Blocks = 11
	for _, text := range []string{"", "no map", string(behind(t, other, split(1, 4)).Encode()), string(behind(t, three(), split(1, 4)).Encode()) + "x"} {
		n, d := begins(t, 2, three())
		append1(n, 2, 0, api.Entry{Term: 1}, change(split(1, 4)))
		n.Hear(snap(9, text))
		has(t, "no map", n, behind(t, three(), split(1, 4)))
		d.Crash(0)
		n = opens(t, d, 2)
		append1(n, 2, 9, change(settle()))
		has(t, "behind it", n, behind(t, three(), split(1, 4), settle()))
		append1(n, 2, 10, change(merge(2, 3)))
		has(t, "further behind it", n, behind(t, three(), split(1, 4), settle(), merge(2, 3)))
	}
}

// P13.4: an old base, and an old map, take nothing back.
func TestOlderMaps(t *testing.T) {
	n, _ := begins(t, 2, three())
	at := behind(t, three(), split(1, 4), settle(), merge(2, 3))
	n.Hear(mapMail(at, 0, 2))
	n.Hear(snap(9, string(behind(t, three(), split(1, 4)).Encode())))
	has(t, "an older base", n, at)
	append1(n, 2, 9, change(settle()))
	has(t, "older News", n, at)
	append1(n, 2, 10, change(merge(2, 3)), change(settle()))
	has(t, "the newest News", n, behind(t, three(), split(1, 4), settle(), merge(2, 3), settle()))
}

// P13.4: which map is newer; who hears of an older one answers its own.
func TestMailMap(t *testing.T) {
	rows := []*atlas.Atlas{
		atFirst(t, three()), behind(t, three(), split(1, 4)), behind(t, three(), split(1, 4), settle()),
		behind(t, three(), split(1, 4), settle(), renew(2)), behind(t, three(), split(1, 4), settle(), renew(2), settle()),
	}
	for i, own := range rows {
		for j, told := range rows {
			n, _ := begins(t, 2, three())
			n.Hear(mapMail(own, 1, 2))
			l := n.Hear(mapMail(told, 0, 2))
			has(t, "the newest one", n, rows[max(i, j)])
			if i > j {
				sends(t, "an older one", l, mapMail(own, 2, 0))
			} else {
				sends(t, "one that isn't older", l)
			}
		}
	}
}

// P13.4: a map is kept.
func TestMailMapIsKept(t *testing.T) {
	n, d := begins(t, 2, three())
	at := behind(t, three(), split(1, 4))
	n.Hear(mapMail(at, 1, 2))
	d.Crash(0)
	has(t, "behind a crash", opens(t, d, 2), at)
}

// P13.4: of one epoch, and settled both, none is newer: so they aren't sent to and fro.
func TestMapsOfOneEpoch(t *testing.T) {
	n, _ := begins(t, 2, three())
	at := behind(t, three(), split(1, 4), settle())
	n.Hear(mapMail(at, 1, 2))
	sends(t, "another one of that epoch", n.Hear(mapMail(behind(t, three(), split(1, 5), settle()), 1, 2)))
	sends(t, "an open one of that epoch", n.Hear(mapMail(behind(t, three(), split(1, 5)), 1, 2)), mapMail(at, 2, 1))
	has(t, "they change nothing", n, at)
}

// P13.4: mails that tell no map, or come from nobody, or are for another one.
func TestMailMapThatIsNone(t *testing.T) {
	n, _ := begins(t, 2, three())
	other := three()
	other.Blocks = 13
	newer := behind(t, three(), split(1, 4))
	for _, m := range []api.Mail{
		{Kind: api.MailMap, From: 1, To: 2, Epoch: 9}, {Kind: api.MailMap, From: 1, To: 2, Epoch: 9, Text: "no map"}, mapMail(behind(t, other, split(1, 4)), 1, 2),
		mapMail(newer, 2, 2), mapMail(newer, 3, 2), mapMail(newer, 100, 2), mapMail(newer, -1, 2), mapMail(newer, 1, 0), mapMail(newer, 1, 3), mapMail(newer, math.MaxInt, 2),
		{Kind: 27, From: 1, To: 2, Text: string(newer.Encode())}, {From: 1, To: 2, Text: string(newer.Encode())}, {Kind: -23, From: 1, To: 2, Text: string(newer.Encode())},
	} {
		sends(t, "no map", n.Hear(m))
		has(t, "no map", n, atFirst(t, three()))
	}
}

// P13.4: with each sixth tick all others are told.
func TestMapTicks(t *testing.T) {
	n, _ := begins(t, 1, four())
	at := behind(t, four(), split(1, 4))
	n.Hear(mapMail(at, 0, 1))
	for i := 1; i <= 30; i++ {
		l := of(n.Tick(), api.MailMap)
		if i%6 > 0 {
			sends(t, "a tick between", l)
			continue
		}
		sends(t, "a sixth tick", l, mapMail(at, 1, 0), mapMail(at, 1, 2), mapMail(at, 1, 3))
	}
}

// wishes checks what Wish answers.
func wishes(t *testing.T, what string, n *node.Node, c api.Change, want api.Errno) []api.Mail {
	t.Helper()
	l, e := n.Wish(c)
	if e != want || e != api.OK && len(l) > 0 {
		t.Fatalf("%s: Wish of %v: error %d and not %d, %v", what, c, e, want, l)
	}
	return l
}

// P13.9: what Wish refuses, and in which order.
func TestWish(t *testing.T) {
	n, _ := begins(t, 0, four())
	for _, c := range []api.Change{split(1, 4), {}, replace(1, 0, 4), settle(), renew(9)} {
		wishes(t, "it doesn't lead", n, c, api.ErrNone)
	}
	leads(t, n)
	for _, c := range []api.Change{{}, {Kind: 6}, {Kind: api.ChangeRenew, Shard: 1, At: 1}, replace(1, 0, 4), replace(1, 0, -1), replace(9, 0, 7), replace(1, 0, math.MaxInt), replace(1, 0, 1), replace(1, 3, 3), split(1, 0), split(1, 12)} {
		wishes(t, "it may not be", n, c, api.ErrArg)
	}
	for _, c := range []api.Change{renew(9), split(0, 4), merge(1, 2), settle()} {
		wishes(t, "there is none", n, c, api.ErrNone)
	}
	has(t, "what is refused", n, atFirst(t, four()))
	wishes(t, "a replacement", n, replace(1, 0, 3), api.OK)
	has(t, "a replacement", n, behind(t, four(), replace(1, 0, 3)))
	wishes(t, "another one", n, renew(2), api.ErrDown)
	wishes(t, "another one, by no node", n, replace(2, 1, 4), api.ErrArg)
	wishes(t, "its end, ahead of time", n, settle(), api.ErrBusy)
	has(t, "its end, ahead of time", n, behind(t, four(), replace(1, 0, 3)))
	ends(n, 1, 2)
	has(t, "its end", n, behind(t, four(), replace(1, 0, 3), settle()))
	wishes(t, "behind its end", n, settle(), api.ErrNone)
	wishes(t, "the next one", n, renew(2), api.OK)
}

// P13.9: one change after the other in a term: ErrBusy, till the last one is told.
func TestWishBusy(t *testing.T) {
	n, _ := begins(t, 0, three())
	elected(t, n)
	want := api.Mail{Kind: api.MailAppend, From: 0, To: 1, Term: 1, Index: 1, Past: 1, Commit: 1, Entries: []api.Entry{change(split(1, 4))}}
	other := want
	// Where the node 2's log ends isn't known yet.
	other.To, other.Index, other.Past, other.Entries = 2, 0, 0, []api.Entry{{Term: 1}, change(split(1, 4))}
	l := wishes(t, "the first one", n, split(1, 4), api.OK)
	i := slices.IndexFunc(l, func(m api.Mail) bool { return m.To == 1 })
	if len(l) != 2 || i < 0 || !mailsAlike(l[i], want) {
		t.Fatalf("it sends %v", l)
	}
	for _, c := range []api.Change{split(1, 4), {}, replace(1, 0, 9), settle()} {
		wishes(t, "it isn't told", n, c, api.ErrBusy)
	}
	has(t, "it isn't told", n, atFirst(t, three()))
	appended(n, 1)
	wishes(t, "it isn't told still", n, renew(1), api.ErrBusy)
	appended(n, 2)
	has(t, "it is told", n, behind(t, three(), split(1, 4)))
	wishes(t, "it is told", n, renew(2), api.ErrDown)
	wishes(t, "its end, ahead of time", n, settle(), api.ErrBusy)
	mayEnd(t, n, 2, 3)
	wishes(t, "its end", n, settle(), api.OK)
	wishes(t, "behind its end", n, renew(2), api.ErrBusy)
	appended(n, 3)
	wishes(t, "the next one", n, renew(2), api.OK)
}

// P13.9: in another term what was offered in the one ahead doesn't hinder; and an entry of voters is no change.
func TestWishInAnotherTerm(t *testing.T) {
	n, _ := begins(t, 0, three())
	elected(t, n)
	wishes(t, "the first term", n, split(1, 4), api.OK)
	n.Hear(api.Mail{Kind: api.MailAppended, From: 1, To: 0, Term: 3})
	wishes(t, "it doesn't lead", n, renew(1), api.ErrNone)
	ticks(n, 10)
	n.Hear(api.Mail{Kind: api.MailVoted, From: 1, To: 0, Term: 4, Ok: true})
	if !n.Leads() {
		t.Fatal("it doesn't lead again")
	}
	wishes(t, "another term", n, renew(1), api.OK)
	wishes(t, "it isn't told", n, renew(1), api.ErrBusy)
	m, _ := begins(t, 0, three())
	elected(t, m)
	wishes(t, "a change", m, renew(1), api.OK)
	appended(m, 2)
	mayEnd(t, m, 2)
	if _, e := m.Elect([]int{0, 1}); e != api.OK {
		t.Fatalf("Elect: error %d", e)
	}
	wishes(t, "behind voters that aren't agreed on", m, settle(), api.OK)
}

// P13.9: a wish is held against the map of the council's News, not against a newer one; so are bases.
func TestWishByTheNews(t *testing.T) {
	n, _ := begins(t, 0, three())
	n.Hear(mapMail(behind(t, three(), renew(1), settle(), split(2, 4)), 1, 0))
	elected(t, n)
	wishes(t, "what the newest map has, and the News' hasn't", n, renew(2), api.ErrNone)
	want := atFirst(t, three())
	index := 1
	for range 40 {
		c := renew(want.Shards()[0].Id)
		wishes(t, "what the News' map has", n, c, api.OK)
		want.Apply(c)
		appended(n, index+1)
		for from := 1; from <= 2; from++ {
			n.Hear(tells(from, 0, want.Shards()[0].Id))
		}
		want.Apply(settle())
		index += 2
		appended(n, index)
		if index == 3 {
			// So that the newest map is ahead again: of another history, which the council knows nothing of.
			n.Hear(mapMail(farAhead(t), 1, 0))
		}
	}
	l := of(n.Hear(api.Mail{Kind: api.MailAppended, From: 2, To: 0, Term: 1}), api.MailSnap)
	if len(l) != 1 || l[0].Text == string(n.Map().Encode()) {
		t.Fatalf("who has nothing yet is told %v", l)
	}
	base := atFirst(t, three())
	for i := range l[0].Index - 1 {
		base.Apply([]api.Change{renew(base.Shards()[0].Id), settle()}[i%2])
	}
	if l[0].Text != string(base.Encode()) || l[0].Index < 60 {
		t.Errorf("the base up to %d isn't the map of the News", l[0].Index)
	}
}

// farAhead is a map of a great epoch.
func farAhead(t *testing.T) *atlas.Atlas {
	a := atFirst(t, three())
	for range 100 {
		a.Apply(renew(a.Shards()[0].Id))
		a.Apply(settle())
	}
	return a
}

// P13.9: Elect is the council's Offer.
func TestElect(t *testing.T) {
	n, _ := begins(t, 0, four())
	elects := func(what string, want api.Errno, voters ...int) []api.Mail {
		t.Helper()
		l, e := n.Elect(voters)
		if e != want || e != api.OK && len(l) > 0 {
			t.Fatalf("%s: Elect of %v: error %d and not %d, %v", what, voters, e, want, l)
		}
		return l
	}
	elects("it doesn't lead", api.ErrNone, 0, 1)
	leads(t, n)
	for _, v := range [][]int{nil, {1, 0}, {0, 0}, {0, 7}, {-1, 0}, {0, 256}, {0, 257}, {256}, {0, 1 << 40}, {math.MinInt, 0}, {0, math.MaxInt}, {0}, {0, 1, 2}, {1}, make([]int, 5000)} {
		elects("they may not be", api.ErrArg, v...)
	}
	l := elects("one more", api.OK, 0, 3)
	if len(l) != 1 || l[0].Kind != api.MailAppend || l[0].To != 3 {
		t.Fatalf("it sends %v", l)
	}
	elects("the last ones aren't agreed on", api.ErrDown, 0)
	has(t, "no change", n, atFirst(t, four()))
	voters := []int{0, 3}
	n.Elect(voters)
	if voters[0] != 0 || voters[1] != 3 {
		t.Error("it has changed the list")
	}
}

// wish is a MailChange.
func wish(from, to int, c api.Change) api.Mail {
	return api.Mail{Kind: api.MailChange, From: from, To: to, Text: atlas.Lay(c)}
}

// P13.9: a MailChange to a leader is a wish.
func TestMailChangeToALeader(t *testing.T) {
	for _, from := range []int{1, 3, 100} {
		n, _ := begins(t, 0, four())
		leads(t, n)
		for _, c := range []api.Change{{}, renew(5), replace(1, 0, 5), settle()} {
			sends(t, "what is refused", n.Hear(wish(from, 0, c)))
			has(t, "what is refused", n, atFirst(t, four()))
		}
		sends(t, "no change", n.Hear(api.Mail{Kind: api.MailChange, From: from, To: 0, Text: "no change"}))
		n.Hear(wish(from, 0, split(1, 4)))
		has(t, "a split", n, behind(t, four(), split(1, 4)))
	}
}

// P13.9: to another one it goes on to the leader.
func TestMailChangeGoesOn(t *testing.T) {
	n, _ := begins(t, 2, three())
	sends(t, "there is no leader", n.Hear(wish(0, 2, split(1, 4))))
	append1(n, 2, 0, api.Entry{Term: 1})
	sends(t, "1 leads", n.Hear(wish(0, 2, split(1, 4))), wish(2, 1, split(1, 4)))
	sends(t, "a client wishes", n.Hear(wish(100, 2, split(1, 4))), wish(2, 1, split(1, 4)))
	sends(t, "what the leader refuses", n.Hear(wish(0, 2, renew(9))), wish(2, 1, renew(9)))
	sends(t, "the leader wishes", n.Hear(wish(1, 2, split(1, 4))))
	sends(t, "no change", n.Hear(api.Mail{Kind: api.MailChange, From: 0, To: 2, Text: "no change"}))
	sends(t, "for another one", n.Hear(wish(0, 1, split(1, 4))))
	has(t, "it goes on", n, atFirst(t, three()))
}

// P13.9: Leads.
func TestLeads(t *testing.T) {
	n, _ := begins(t, 0, four())
	for i := 1; i <= 20; i++ {
		if n.Tick(); n.Leads() != (i >= 10) {
			t.Fatalf("tick %d: it leads: %v", i, n.Leads())
		}
	}
}
