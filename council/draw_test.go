package council_test

import (
	"slices"
	"strconv"
	"strings"
	"testing"

	"lamella/api"
	"lamella/council"
)

// model is a council told the plainest way: the chapter word by word, all entries by their numbers.
type model struct {
	self, term, vote     int
	base                 int // what is of this number has the base's term
	baseVoters, baseText string
	last                 int
	at                   map[int]api.Entry
	leader, told, clock  int
	stood                int // the term of its election, till that is over
	yes                  map[int]bool
	beats                int
	match, next          map[int]int
	out                  api.Word
}

// modelOf is one that has kept that.
func modelOf(self int, s state) *model {
	m := &model{self: self, term: s.term, vote: s.vote, base: s.index, baseVoters: s.voters, baseText: s.text, leader: -1, told: s.index}
	m.at = map[int]api.Entry{s.index: {Term: s.past}}
	m.last = s.index
	for _, e := range s.log {
		m.put(e)
	}
	return m
}

func (m *model) put(e api.Entry) {
	m.last++
	m.at[m.last] = e
	m.out.Keep = true
}

// kept is what it keeps.
func (m *model) kept() state {
	s := state{term: m.term, vote: m.vote, index: m.base, past: m.at[m.base].Term, voters: m.baseVoters, text: m.baseText}
	for i := m.base + 1; i <= m.last; i++ {
		s.log = append(s.log, m.at[i])
	}
	return s
}

// voters is who votes up to an index.
func (m *model) voters(upTo int) []int {
	text := m.baseVoters
	for i := m.base + 1; i <= upTo; i++ {
		if m.at[i].Kind == 2 {
			text = m.at[i].Text
		}
	}
	var l []int
	for _, b := range []byte(text) {
		l = append(l, int(b))
	}
	return l
}

// enough: is it more than half of the voters?
func (m *model) enough(fits func(n int) bool) bool {
	yes, no := 0, 0
	for _, n := range m.voters(m.last) {
		if fits(n) {
			yes++
		} else {
			no++
		}
	}
	return yes > no
}

func (m *model) post(x api.Mail) {
	x.From, x.Term = m.self, m.term
	m.out.Mails = append(m.out.Mails, x)
}

func (m *model) tick() {
	m.clock++
	if m.leader == m.self {
		if m.beats++; m.beats%2 == 0 {
			m.sendAll()
		}
		return
	}
	may := false
	for i := m.told; i <= m.last; i++ {
		may = may || slices.Contains(m.voters(i), m.self)
	}
	if !may || m.clock < 10+3*m.self || m.term == most {
		return
	}
	m.term++
	m.vote, m.stood, m.leader, m.clock, m.yes = m.self, m.term, -1, 0, map[int]bool{m.self: true}
	m.out.Keep = true
	for _, n := range m.voters(m.last) {
		if n != m.self {
			m.post(api.Mail{Kind: api.MailVote, To: n, Index: m.last, Past: m.at[m.last].Term})
		}
	}
	m.maybeLead()
}

func (m *model) maybeLead() {
	if !m.enough(func(n int) bool { return m.yes[n] }) || m.last-m.base >= api.MaxList {
		return
	}
	m.leader, m.beats, m.match, m.next = m.self, 0, map[int]int{}, map[int]int{}
	m.stood = 0
	m.put(none(m.term))
	for n := range 7 {
		m.next[n] = m.last + 1
	}
	m.maybeCommit()
	m.sendAll()
}

func (m *model) sendAll() {
	for _, n := range m.voters(m.last) {
		if n != m.self {
			m.send(n)
		}
	}
}

func (m *model) send(n int) {
	i := m.next[n]
	if i <= m.base {
		m.post(api.Mail{Kind: api.MailSnap, To: n, Index: m.base, Past: m.at[m.base].Term, Text: m.baseText,
			Entries: entries(api.Entry{Term: m.at[m.base].Term, Kind: 2, Text: m.baseVoters})})
		return
	}
	x := api.Mail{Kind: api.MailAppend, To: n, Index: i - 1, Past: m.at[i-1].Term, Commit: m.told}
	for k := i; k <= m.last && k < i+64; k++ {
		x.Entries = append(x.Entries, m.at[k])
	}
	m.post(x)
}

func (m *model) maybeCommit() {
	for i := m.last; i > m.told; i-- {
		if m.at[i].Term == m.term && m.enough(func(n int) bool { return n == m.self || m.match[n] >= i }) {
			m.commit(i)
			if !slices.Contains(m.voters(i), m.self) {
				m.leader = -1
			}
			return
		}
	}
}

func (m *model) commit(upTo int) {
	for m.told < upTo {
		m.told++
		m.out.News = append(m.out.News, api.News{Index: m.told, Entry: m.at[m.told]})
	}
}

// says: does a mail say anything?
func (m *model) says(x api.Mail) bool {
	ok := x.To == m.self && x.From != m.self && x.From >= 0 && x.From < 7 && x.Kind >= 11 && x.Kind <= 16 && x.Term >= 1 && len(x.Entries) <= 4096
	for _, n := range []int{x.Term, x.Index, x.Past, x.Commit} {
		ok = ok && n >= 0 && n <= most
	}
	terms := []int{x.Past}
	for _, e := range x.Entries {
		_, named := council.Voters(e.Text)
		ok = ok && e.Kind >= 0 && e.Kind <= 2 && len(e.Text) <= 4096 && (e.Kind != 2 || named)
		terms = append(terms, e.Term)
	}
	ok = ok && slices.IsSorted(terms) && terms[len(terms)-1] <= x.Term
	return ok && (x.Kind != api.MailSnap || len(x.Entries) == 1 && x.Entries[0].Kind == 2 && len(x.Text) <= api.MaxText)
}

func (m *model) hear(x api.Mail) {
	if !m.says(x) || x.Kind == api.MailVote && (m.leader == m.self || m.leader >= 0 && m.clock < 10) {
		return
	}
	if x.Term > m.term {
		m.term, m.vote, m.leader = x.Term, -1, -1
		m.out.Keep = true
	}
	same := x.Term == m.term
	answers := same && m.leader == m.self && slices.Contains(m.voters(m.last), x.From) && x.Index <= m.last
	switch x.Kind {
	case api.MailVote:
		m.hearVote(x)
	case api.MailVoted:
		if x.Ok && same && m.stood == m.term && m.leader == -1 && m.vote == m.self {
			m.yes[x.From] = true
			m.maybeLead()
		}
	case api.MailAppend:
		m.hearAppend(x)
	case api.MailSnap:
		m.hearSnap(x)
	case api.MailAppended:
		if answers && !x.Ok {
			m.next[x.From] = x.Index + 1
			m.send(x.From)
		} else if answers {
			m.together(x)
			if m.leader == m.self && m.match[x.From] != m.last {
				m.send(x.From)
			}
		}
	case api.MailSnapped:
		if answers {
			m.together(x)
		}
	}
}

func (m *model) together(x api.Mail) {
	m.match[x.From] = max(x.Index, m.match[x.From])
	m.next[x.From] = m.match[x.From] + 1
	m.maybeCommit()
}

func (m *model) hearVote(x api.Mail) {
	mine := m.at[m.last].Term
	ok := x.Term == m.term && (m.vote == -1 || m.vote == x.From) && (x.Past > mine || x.Past == mine && x.Index >= m.last)
	if ok {
		m.out.Keep = m.out.Keep || m.vote == -1
		m.vote, m.clock = x.From, 0
	}
	m.post(api.Mail{Kind: api.MailVoted, To: x.From, Ok: ok})
}

func (m *model) hearAppend(x api.Mail) {
	if x.Term < m.term {
		m.post(api.Mail{Kind: api.MailAppended, To: x.From})
		return
	}
	m.leader, m.clock = x.From, 0
	m.stood = 0
	ahead, past, l := x.Index, x.Past, x.Entries
	for ahead < m.base {
		ahead++
		past = m.at[m.base].Term
		if len(l) > 0 {
			past, l = l[0].Term, l[1:]
		}
	}
	if e, in := m.at[ahead]; !in || e.Term != past {
		m.post(api.Mail{Kind: api.MailAppended, To: x.From, Index: min(m.last, ahead-1)})
		return
	}
	for i, e := range l {
		k := ahead + 1 + i
		if y, in := m.at[k]; in && y.Term == e.Term {
			continue
		}
		if k <= m.told || ahead+len(l)-m.base > api.MaxList {
			return
		}
		for ; m.last >= k; m.last-- {
			delete(m.at, m.last)
		}
		m.put(e)
	}
	m.commit(min(x.Commit, ahead+len(l)))
	m.post(api.Mail{Kind: api.MailAppended, To: x.From, Ok: true, Index: ahead + len(l)})
}

func (m *model) hearSnap(x api.Mail) {
	if x.Term < m.term {
		m.post(api.Mail{Kind: api.MailSnapped, To: x.From})
		return
	}
	m.leader, m.clock = x.From, 0
	m.stood = 0
	if x.Index > m.told {
		if e, in := m.at[x.Index]; !in || e.Term != x.Past {
			m.at, m.last = map[int]api.Entry{}, x.Index
		}
		m.rebase(x.Index, x.Past, x.Entries[0].Text, x.Text)
		m.told = x.Index
		m.out.News = append(m.out.News, api.News{Index: x.Index, Entry: api.Entry{Text: x.Text}, Snap: true})
	}
	m.post(api.Mail{Kind: api.MailSnapped, To: x.From, Index: m.told})
}

func (m *model) rebase(index, term int, voters, text string) {
	for i := range m.at {
		if i < index {
			delete(m.at, i)
		}
	}
	m.at[index] = none(term)
	m.base, m.baseVoters, m.baseText = index, voters, text
	m.out.Keep = true
}

func (m *model) offer(kind int, text string) api.Errno {
	if m.leader != m.self {
		return api.ErrNone
	}
	next, named := council.Voters(text)
	if kind < 0 || kind > 2 || len(text) > 4096 || kind == 2 && !named {
		return api.ErrArg
	}
	was := m.voters(m.last)
	if kind == 2 {
		own := false
		for i := m.base; i <= m.told; i++ {
			own = own || m.at[i].Term == m.term
		}
		for i := m.told + 1; i <= m.last; i++ {
			own = own && m.at[i].Kind != 2
		}
		if !own {
			return api.ErrDown
		}
		differ := 0
		for n := range 7 {
			if slices.Contains(next, n) != slices.Contains(was, n) {
				differ++
			}
		}
		if differ != 1 {
			return api.ErrArg
		}
	}
	if m.last-m.base >= api.MaxList {
		return api.ErrBig
	}
	m.put(api.Entry{Term: m.term, Kind: kind, Text: text})
	for n := range 7 {
		if !slices.Contains(was, n) {
			m.match[n], m.next[n] = 0, m.last+1
		}
	}
	m.maybeCommit()
	m.sendAll()
	return api.OK
}

func (m *model) compact(index int, text string) api.Errno {
	if index <= m.base || index > m.told || index > most {
		return api.ErrArg
	}
	if len(text) > api.MaxText {
		return api.ErrBig
	}
	m.rebase(index, m.at[index].Term, names(m.voters(index)...), text)
	return api.OK
}

// state is a small one that may be kept, its numbers sometimes near the greatest ones.
func (d dice) state() state {
	s := state{term: d.Intn(4), vote: d.Intn(8) - 1, index: d.Intn(3) * d.Intn(3), voters: names(d.nodes()...), text: "base"}
	if d.Intn(10) == 0 {
		s.term = most - s.term
	}
	if d.Intn(10) == 0 {
		s.index = most - s.index
	}
	s.past = d.upTo(s.term)
	s.log = d.entries(d.Intn(6), s.past, s.term)
	return s
}

// upTo is a term not above another one, nor far below it.
func (d dice) upTo(term int) int { return term - d.Intn(min(term, 9)+1) }

// entries are some whose terms rise from past on up to term at most.
func (d dice) entries(n, past, term int) []api.Entry {
	var l []api.Entry
	for range n {
		if past < term && d.Intn(3) == 0 {
			past++
		}
		e := api.Entry{Term: past, Kind: d.Intn(3)}
		switch {
		case e.Kind == 2:
			e.Text = names(d.nodes()...)
		case e.Kind == 1:
			e.Text = strconv.Itoa(d.Intn(100))
		}
		l = append(l, e)
	}
	return l
}

// mail is one to the model's council, mostly such that it says something.
func (d dice) mail(m *model) api.Mail {
	x := api.Mail{Kind: api.MailVote + d.Intn(6), From: d.Intn(7), To: m.self, Ok: d.Intn(3) > 0}
	x.Term = max(1, m.term+[]int{-1, 0, 0, 0, 0, 0, 0, 1}[d.Intn(8)])
	switch {
	case d.Intn(30) == 0:
	case m.leader == m.self:
		x.Kind, x.Term = []int{api.MailAppended, api.MailAppended, api.MailSnapped}[d.Intn(3)], m.term
	case m.stood == m.term && m.leader == -1:
		x.Kind, x.Term = api.MailVoted, m.term
	}
	x.Index = m.base - 2 + d.Intn(m.last-m.base+4)
	x.Index = max(0, x.Index)
	x.Past = d.upTo(x.Term)
	if e, in := m.at[x.Index]; in && d.Intn(5) > 0 {
		x.Past = min(e.Term, x.Term)
	}
	x.Commit = max(0, m.told-1+d.Intn(4))
	switch {
	case x.Kind == api.MailSnap:
		x.Entries = entries(voters(x.Past, d.nodes()...))
		x.Text = "snap" + strconv.Itoa(d.Intn(9))
	case x.Kind == api.MailAppend && d.Intn(3) > 0:
		x.Entries = d.entries(d.Intn(5), x.Past, x.Term)
	}
	if d.Intn(20) == 0 {
		d.spoil(&x)
	}
	return x
}

// spoil makes something wrong, mostly.
func (d dice) spoil(x *api.Mail) {
	n := d.Intn(5) - 2
	switch d.Intn(9) {
	case 0:
		x.From += n
	case 1:
		x.To += n
	case 2:
		x.Kind += 3 * n
	case 3:
		x.Past += n
	case 4:
		x.Index -= 9
	case 5:
		x.Term = 0
	case 6:
		x.Commit = most + n
	case 7:
		x.Entries = append(slices.Clone(x.Entries), api.Entry{Term: x.Term + n, Kind: d.Intn(5) - 1, Text: "\x01\x05"})
	case 8:
		x.Entries = append(slices.Clone(x.Entries), change(x.Term, strings.Repeat("x", 4097)))
	}
}

// pair is a council and the model of it.
type pair struct {
	t *testing.T
	d dice
	c *council.Council
	m *model

	loud bool // others are heard of, also while it waits for a leader
}

// waits: is nothing to be heard, so that it comes to stand?
func (p *pair) waits() bool {
	return !p.loud && p.m.leader != p.m.self && p.m.stood != p.m.term
}

// step does something drawn with both, and holds what they answer against each other.
func (p *pair) step() {
	p.t.Helper()
	p.m.out = api.Word{}
	var w api.Word
	e, want := api.OK, api.OK
	switch k := p.d.Intn(100); {
	case k < 40, k < 80 && p.waits():
		w = p.c.Tick()
		p.m.tick()
	case k < 85:
		x := p.d.mail(p.m)
		w = p.c.Hear(x)
		p.m.hear(x)
	case k < 95:
		kind := p.d.Intn(3)
		text := p.d.offer(p.m, kind)
		w, e = p.c.Offer(kind, text)
		want = p.m.offer(kind, text)
	case k < 98:
		i := p.m.base + p.d.Intn(p.m.told-p.m.base+2)
		w, e = p.c.Compact(i, "text")
		want = p.m.compact(i, "text")
	default:
		p.c, e = council.Load(p.m.self, p.c.Encode())
		p.m = modelOf(p.m.self, p.m.kept())
		p.m.out = api.Word{}
	}
	if e != want {
		p.t.Fatalf("error %d, not %d", e, want)
	}
	asks(p.t, "a step", w, p.m.out.Keep, p.m.out.News, p.m.out.Mails...)
	keeps(p.t, "a step", p.c, p.m.kept())
	has(p.t, "a step", p.c, p.m.leader, p.m.told, p.m.voters(p.m.last)...)
	if p.c.Leads() != (p.m.leader == p.m.self) {
		p.t.Errorf("leads: %v", p.c.Leads())
	}
}

// offer is a text for an entry of that kind, of voters mostly one that may be.
func (d dice) offer(m *model, kind int) string {
	switch {
	case kind != 2:
		return strconv.Itoa(d.Intn(100))
	case d.Intn(9) == 0:
		return names(d.Intn(9), d.Intn(7))
	}
	bits := 1 << d.Intn(7)
	for _, n := range m.voters(m.last) {
		bits ^= 1 << n
	}
	return names(subset(bits)...)
}

// P10.1 to P10.10: drawn steps, held against the words.
func TestDrawn(t *testing.T) {
	led, told := 0, 0
	for seed := range int64(4000) {
		d := newDice(seed)
		self, s := d.Intn(7), d.state()
		p := &pair{t: t, d: d, c: loads(t, self, s), m: modelOf(self, s), loud: seed%3 == 0}
		for i := range 150 {
			p.step()
			if t.Failed() {
				t.Fatalf("seed %d, step %d", seed, i)
			}
			if p.c.Leads() {
				led++
			}
			told += len(p.m.out.News)
		}
	}
	if led < 50000 || told < 8000 {
		t.Errorf("hardly anything happens: %d steps of leaders, %d News", led, told)
	}
}
