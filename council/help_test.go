package council_test

import (
	"bytes"
	"math/rand"
	"slices"
	"testing"

	"lamella/api"
	"lamella/council"
)

// most is the greatest number that may be.
const most = 1 << 40

// state is what a council keeps.
type state struct {
	term, vote, index, past int
	voters, text            string
	log                     []api.Entry
}

// num and number lay numbers by the words of P1.2.
func num(n uint64) []byte {
	b := []byte{byte(n % 128)}
	for n /= 128; n > 0; n /= 128 {
		b = append([]byte{byte(n%128) + 128}, b...)
	}
	return b
}

func number(n int) []byte {
	if n < 0 {
		return append([]byte{1}, num(uint64(-1-n))...)
	}
	return append([]byte{0}, num(uint64(n))...)
}

func text(s string) []byte { return append(num(uint64(len(s))), s...) }

// bytes is what Encode must tell.
func (s state) bytes() []byte {
	b := slices.Concat(number(s.term), number(s.vote), number(s.index), number(s.past), text(s.voters), text(s.text), num(uint64(len(s.log))))
	for _, e := range s.log {
		b = append(b, slices.Concat(number(e.Term), number(e.Kind), text(e.Text))...)
	}
	return b
}

// names is the text that names nodes.
func names(nodes ...int) string {
	var b []byte
	for _, n := range nodes {
		b = append(b, byte(n))
	}
	return string(b)
}

// none, change and voters are entries of each kind.
func none(term int) api.Entry { return api.Entry{Term: term} }

func change(term int, text string) api.Entry { return api.Entry{Term: term, Kind: 1, Text: text} }

func voters(term int, nodes ...int) api.Entry {
	return api.Entry{Term: term, Kind: 2, Text: names(nodes...)}
}

// rows is an entry so many times.
func rows(n int, e api.Entry) []api.Entry { return slices.Repeat([]api.Entry{e}, n) }

func entries(l ...api.Entry) []api.Entry { return l }

// news is what is told of entries, from the one number index on.
func news(index int, l ...api.Entry) []api.News {
	var all []api.News
	for i, e := range l {
		all = append(all, api.News{Index: index + i, Entry: e})
	}
	return all
}

// The mails of each kind.
func vote(from, to, term, index, past int) api.Mail {
	return api.Mail{Kind: api.MailVote, From: from, To: to, Term: term, Index: index, Past: past}
}

func voted(from, to, term int, ok bool) api.Mail {
	return api.Mail{Kind: api.MailVoted, From: from, To: to, Term: term, Ok: ok}
}

func appends(from, to, term, index, past, commit int, l ...api.Entry) api.Mail {
	return api.Mail{Kind: api.MailAppend, From: from, To: to, Term: term, Index: index, Past: past, Commit: commit, Entries: l}
}

func appended(from, to, term int, ok bool, index int) api.Mail {
	return api.Mail{Kind: api.MailAppended, From: from, To: to, Term: term, Ok: ok, Index: index}
}

func snap(from, to, term, index, past int, text string, nodes ...int) api.Mail {
	return api.Mail{Kind: api.MailSnap, From: from, To: to, Term: term, Index: index, Past: past, Text: text, Entries: entries(voters(past, nodes...))}
}

func snapped(from, to, term, index int) api.Mail {
	return api.Mail{Kind: api.MailSnapped, From: from, To: to, Term: term, Index: index}
}

// mailsAlike: are all fields the same? Of an instance a council's mail has nothing.
func mailsAlike(a, b api.Mail) bool {
	numbers := func(m api.Mail) [9]int {
		return [9]int{m.Kind, m.From, m.To, m.Shard, m.Term, m.Index, m.Past, m.Commit, m.Epoch}
	}
	bare := func(x api.Inst) bool {
		return x.Ref == api.Ref{} && x.Ballot == api.Ballot{} && x.Vote == api.Ballot{} && x.Status == 0 && !x.Same &&
			x.Cmd.Op == 0 && x.Cmd.Client == 0 && x.Cmd.Seq == 0 && x.Cmd.From == 0 && x.Cmd.To == 0 && len(x.Cmd.Data) == 0 &&
			x.Seq == 0 && len(x.Deps) == 0
	}
	return numbers(a) == numbers(b) && bare(a.Inst) && bare(b.Inst) && a.Ok == b.Ok && slices.Equal(a.Entries, b.Entries) && a.Text == b.Text
}

// short is a mail as it may be told.
func short(l []api.Mail) []api.Mail {
	l = slices.Clone(l)
	for i := range l {
		l[i].Entries = l[i].Entries[:min(3, len(l[i].Entries))]
		l[i].Text = l[i].Text[:min(9, len(l[i].Text))]
	}
	return l
}

// asks checks what a call asks for.
func asks(t *testing.T, what string, w api.Word, keep bool, told []api.News, sent ...api.Mail) {
	t.Helper()
	if w.Keep != keep {
		t.Errorf("%s: Keep is %v", what, w.Keep)
	}
	if !slices.Equal(w.News, told) {
		t.Errorf("%s: %d News %v, not %d", what, len(w.News), w.News[:min(4, len(w.News))], len(told))
	}
	if !slices.EqualFunc(w.Mails, sent, mailsAlike) {
		t.Errorf("%s: sends %+v, not %+v", what, short(w.Mails), short(sent))
	}
}

// asksNothing checks that a call asks for nothing.
func asksNothing(t *testing.T, what string, w api.Word) {
	t.Helper()
	asks(t, what, w, false, nil)
}

// keeps checks what is kept, that it can be loaded, and what is told of it.
func keeps(t *testing.T, what string, c *council.Council, s state) {
	t.Helper()
	if !bytes.Equal(c.Encode(), s.bytes()) {
		t.Errorf("%s: keeps %q, not %q", what, shortBytes(c.Encode()), shortBytes(s.bytes()))
	}
	if c.Term() != s.term || c.Last() != s.index+len(s.log) {
		t.Errorf("%s: term %d, last %d", what, c.Term(), c.Last())
	}
	comesBack(t, what, c)
}

// comesBack checks that what is kept can be loaded, and is the same council.
func comesBack(t *testing.T, what string, c *council.Council) {
	t.Helper()
	b := c.Encode()
	d, e := council.Load(0, b)
	if e != api.OK {
		t.Fatalf("%s: what is kept can't be loaded: error %d, %q", what, e, shortBytes(b))
	}
	if !bytes.Equal(d.Encode(), b) || d.Term() != c.Term() || d.Last() != c.Last() || !slices.Equal(d.Voters(), c.Voters()) {
		t.Errorf("%s: what is loaded is another one", what)
	}
}

func shortBytes(b []byte) []byte { return b[:min(200, len(b))] }

// has checks what isn't kept.
func has(t *testing.T, what string, c *council.Council, leader, told int, nodes ...int) {
	t.Helper()
	if c.Leader() != leader || c.Told() != told {
		t.Errorf("%s: leader %d, told %d, not %d, %d", what, c.Leader(), c.Told(), leader, told)
	}
	if !slices.Equal(c.Voters(), nodes) {
		t.Errorf("%s: voters %v, not %v", what, c.Voters(), nodes)
	}
}

// begins is a new council.
func begins(t *testing.T, self int, nodes ...int) *council.Council {
	t.Helper()
	c, e := council.New(self, nodes)
	if c == nil || e != api.OK {
		t.Fatalf("New of %d among %v: error %d", self, nodes, e)
	}
	return c
}

// loads is a council that comes back with what it kept.
func loads(t *testing.T, self int, s state) *council.Council {
	t.Helper()
	c, e := council.Load(self, s.bytes())
	if c == nil || e != api.OK {
		t.Fatalf("Load of %d: error %d", self, e)
	}
	return c
}

// quiet ticks n times, in which nothing may be asked for.
func quiet(t *testing.T, what string, c *council.Council, n int) {
	t.Helper()
	for i := range n {
		asksNothing(t, what, c.Tick())
		if t.Failed() {
			t.Fatalf("%s: at tick %d of %d", what, i+1, n)
		}
	}
}

// patience is how many ticks a node waits for a leader.
func patience(self int) int { return 10 + 3*self }

// stands lets a council begin an election, in which it has heard of nobody yet.
func stands(t *testing.T, c *council.Council, self int) api.Word {
	t.Helper()
	quiet(t, "ahead of the election", c, patience(self)-1)
	return c.Tick()
}

// elects lets a council begin an election, and all others vote for it; it tells what it then asks for.
func elects(t *testing.T, c *council.Council, self int) api.Word {
	t.Helper()
	w := stands(t, c, self)
	for _, n := range c.Voters() {
		if !c.Leads() && n != self {
			w = c.Hear(voted(n, self, c.Term(), true))
		}
	}
	if !c.Leads() {
		t.Fatalf("%d has all votes of %v, and doesn't lead", self, c.Voters())
	}
	return w
}

// leads is a council that leads, and whose first entry all voters have.
func leads(t *testing.T, self int, nodes ...int) *council.Council {
	t.Helper()
	c := begins(t, self, nodes...)
	elects(t, c, self)
	agree(c, self)
	if c.Told() != 1 {
		t.Fatalf("all of %v have the first entry, and it isn't told", nodes)
	}
	return c
}

// agree has all other voters tell that they have all.
func agree(c *council.Council, self int) {
	for _, n := range c.Voters() {
		if n != self {
			c.Hear(appended(n, self, c.Term(), true, c.Last()))
		}
	}
}

// offers is an Offer that must be taken.
func offers(t *testing.T, c *council.Council, kind int, text string) api.Word {
	t.Helper()
	w, e := c.Offer(kind, text)
	if e != api.OK {
		t.Fatalf("Offer of %d, %q: error %d", kind, text, e)
	}
	return w
}

// refuses checks an Offer that isn't taken.
func refuses(t *testing.T, what string, c *council.Council, kind int, text string, want api.Errno) {
	t.Helper()
	was := c.Encode()
	w, e := c.Offer(kind, text)
	if e != want {
		t.Errorf("%s: error %d, not %d", what, e, want)
	}
	asksNothing(t, what, w)
	if !bytes.Equal(was, c.Encode()) {
		t.Errorf("%s: something has changed", what)
	}
}

// compacts is a Compact that must be taken.
func compacts(t *testing.T, c *council.Council, index int, text string) {
	t.Helper()
	w, e := c.Compact(index, text)
	if e != api.OK {
		t.Fatalf("Compact at %d: error %d", index, e)
	}
	asks(t, "Compact", w, true, nil)
}

// subset is the nodes whose bits are set.
func subset(bits int) []int {
	var l []int
	for n := range api.MaxNodes {
		if bits>>n&1 == 1 {
			l = append(l, n)
		}
	}
	return l
}

// dice are the same in each run.
type dice struct{ *rand.Rand }

func newDice(seed int64) dice { return dice{rand.New(rand.NewSource(seed))} }

// nodes is one or more of them, rising.
func (d dice) nodes() []int { return subset(1 + d.Intn(127)) }
