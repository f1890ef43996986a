package accord_test

import (
	"slices"
	"testing"

	"lamella/accord"
	"lamella/api"
	"lamella/insts"
)

// model is what a member knows that has no tries, told the plainest way.
type model struct {
	self  int
	known map[api.Ref]api.Inst
}

// rising is all that is known, each put where it belongs.
func (m *model) rising() []api.Inst {
	var l []api.Inst
	for _, x := range m.known {
		at := 0
		for at < len(l) && (l[at].Ref.Lead < x.Ref.Lead || l[at].Ref.Lead == x.Ref.Lead && l[at].Ref.Index < x.Ref.Index) {
			at++
		}
		l = slices.Insert(l, at, x)
	}
	return l
}

// order is layer 7's Order.
func (m *model) order(y api.Inst) (int, []api.Ref) {
	table := insts.New()
	for _, x := range m.known {
		table.Put(x)
	}
	return table.Order(y.Cmd, y.Ref)
}

func (m *model) greater(a, b api.Ballot) bool { return a.N > b.N || a.N == b.N && a.Node > b.Node }

// pre is what x is behind a MailPre that isn't refused, word by word; and whether it is another one than ahead, and whether it is answered.
func (m *model) pre(from int, x, y api.Inst) (z api.Inst, anew, answered bool) {
	if y.Ballot.N == 0 && (from != y.Ref.Lead || y.Ballot.Node != y.Ref.Lead) {
		return x, false, false
	}
	if x.Status != api.None && x.Vote == y.Ballot {
		return x, false, x.Status == api.Seen
	}
	seq, deps := m.order(y)
	z = y
	z.Vote, z.Same, z.Seq, z.Deps = y.Ballot, y.Ballot.N == 0, max(seq, y.Seq), nil
	for lead := range 7 {
		for index := range 20 {
			if r := ref(lead, index); slices.Contains(deps, r) || slices.Contains(y.Deps, r) {
				z.Deps = append(z.Deps, r)
			}
		}
	}
	z.Same = z.Same && z.Seq == y.Seq && slices.Equal(z.Deps, y.Deps)
	return z, true, true
}

// hear is Hear of a mail that may be.
func (m *model) hear(l api.Mail) api.Out {
	x, in := m.known[l.Inst.Ref]
	if !in {
		x = api.Inst{Ref: l.Inst.Ref}
	}
	y := l.Inst
	answer := func(kind int, x api.Inst) api.Out { return api.Out{Mails: mails(kind, m.self, x, l.From)} }
	asks := l.Kind == api.MailPre || l.Kind == api.MailTake || l.Kind == api.MailAsk
	switch {
	case asks && x.Status == api.Done:
		return answer(api.MailCommit, x)
	case asks && m.greater(x.Ballot, y.Ballot):
		return answer(api.MailNo, bare(x.Ref, x.Ballot))
	}
	z, anew, answered := x, true, true
	switch l.Kind {
	case api.MailPre:
		z, anew, answered = m.pre(l.From, x, y)
	case api.MailTake:
		if anew = x.Status != api.Taken || x.Vote != y.Ballot; anew {
			z = y
			z.Vote, z.Same = y.Ballot, false
		}
	case api.MailAsk:
		anew = x.Ballot != y.Ballot
		z.Ballot = y.Ballot
	case api.MailCommit:
		if anew, answered = x.Status != api.Done, false; anew {
			z = y
			if m.greater(x.Ballot, y.Ballot) {
				z.Ballot = x.Ballot
			}
		}
	case api.MailNext:
		return api.Out{Mails: m.next(l)}
	default:
		return api.Out{}
	}
	var out api.Out
	if answered {
		out = answer(l.Kind+1, z)
	}
	if anew {
		out.Saves = saves(z)
		m.known[z.Ref] = z
	}
	return out
}

func (m *model) next(l api.Mail) []api.Mail {
	var told []api.Mail
	for _, x := range m.rising() {
		if x.Ref.Lead == l.Inst.Ref.Lead && x.Ref.Index >= l.Inst.Ref.Index && x.Status == api.Done && len(told) < 16 {
			told = append(told, mail(api.MailCommit, m.self, l.From, x))
		}
	}
	return told
}

// inst is one that may be, of few Refs and ballots.
func (d dice) inst(status int) api.Inst {
	x := api.Inst{Ref: ref(d.Intn(3), 1+d.Intn(3)), Ballot: ballot(d.Intn(3), d.Intn(3)), Status: status}
	if status == api.None {
		return x
	}
	x.Vote, x.Same, x.Cmd, x.Seq = x.Ballot, d.Intn(2) == 0, d.cmd(1+d.Intn(9)), d.Intn(6)
	if x.Vote.N > 0 && d.Intn(3) == 0 {
		x.Vote.N--
	}
	for lead := range 3 {
		for index := 1; index <= 3; index++ {
			if d.Intn(4) == 0 {
				x.Deps = append(x.Deps, ref(lead, index))
			}
		}
	}
	return x
}

// mail is one of all kinds, with a status that goes with it.
func (d dice) mail(to int) api.Mail {
	kind := 1 + d.Intn(9)
	status := map[int]int{api.MailPre: api.Seen, api.MailPreOk: api.Seen, api.MailTake: api.Taken, api.MailTakeOk: api.Taken, api.MailCommit: api.Done}
	s, in := status[kind]
	if !in {
		s = d.Intn(4)
	}
	x := d.inst(s)
	if kind == api.MailCommit && d.Intn(4) > 0 {
		kind, x.Status = api.MailTake, api.Taken
	}
	from := (to + 1 + d.Intn(2)) % 3
	if kind == api.MailPre && d.Intn(2) == 0 {
		from, x.Ballot.Node, x.Vote = x.Ref.Lead, x.Ref.Lead, ballot(0, 0)
	}
	return mail(kind, from, to, x)
}

// P8.4: draws of mails to one who has no tries, held against the model.
func TestHearDrawn(t *testing.T) {
	d := newDice(1)
	kinds := map[int]int{}
	for range 1500 {
		self := d.Intn(3)
		m := &model{self, map[api.Ref]api.Inst{}}
		r := begins(t, self, three())
		for range 60 {
			l := d.mail(self)
			if l.From == self || !insts.May(l.Inst) {
				continue
			}
			got, want := r.Hear(l), m.hear(l)
			asks(t, "a draw", got, want.Saves, want.Mails...)
			if t.Failed() {
				t.Fatalf("the mail was %v", l)
			}
			for _, a := range got.Mails {
				kinds[a.Kind]++
			}
		}
		has(t, "a draw", r, 0, m.rising()...)
	}
	for _, k := range []int{api.MailPreOk, api.MailTakeOk, api.MailCommit, api.MailTell, api.MailNo} {
		if kinds[k] < 1000 {
			t.Errorf("hardly any of kind %d: %d", k, kinds[k])
		}
	}
}

// noted is what was kept, as it is behind what a call asks for.
func noted(kept map[api.Ref]api.Inst, out api.Out) {
	for _, x := range out.Saves {
		kept[x.Ref] = x
	}
}

// P8.2, rule 1: whatever comes, all that is known was kept, what is done stays, and mails are such as may be.
func TestAnythingDrawn(t *testing.T) {
	d := newDice(2)
	for range 600 {
		self := d.Intn(3)
		r := begins(t, self, three())
		kept := map[api.Ref]api.Inst{}
		for i := range 80 {
			was := r.Insts()
			var out api.Out
			switch d.Intn(10) {
			case 0:
				_, out, _ = r.Propose(d.cmd(1 + i))
			case 1, 2, 3:
				out = r.Tick(refs(ref(d.Intn(5)-1, d.Intn(5)-1)))
			default:
				l := d.mail(self)
				if d.Intn(10) == 0 {
					l.Inst.Ref.Index, l.Kind, l.From = d.Intn(9)-4, d.Intn(40)-3, d.Intn(9)-4
				}
				out = r.Hear(l)
			}
			noted(kept, out)
			may(t, self, out)
			stays(t, was, r)
		}
		m := &model{self, kept}
		if !slices.EqualFunc(r.Insts(), m.rising(), alike) {
			t.Fatalf("it knows %v, and has kept %v", r.Insts(), m.rising())
		}
	}
}

// may checks that all that is asked for is such as P8.2 says.
func may(t *testing.T, self int, out api.Out) {
	t.Helper()
	for _, x := range out.Saves {
		if !insts.May(x) {
			t.Fatalf("%v is kept", x)
		}
	}
	for _, m := range out.Mails {
		if m.From != self || m.To == self || m.To < 0 || m.To > 6 || m.Shard != shard || m.Kind < api.MailPre || m.Kind > api.MailNext || !insts.May(m.Inst) {
			t.Fatalf("%v is sent", m)
		}
		if !mailsAlike(m, mail(m.Kind, m.From, m.To, m.Inst)) {
			t.Fatalf("%v is sent", m)
		}
	}
}

// stays checks that what was done is so still, and that no ballot has sunk.
func stays(t *testing.T, was []api.Inst, r *accord.Replica) {
	t.Helper()
	for _, x := range was {
		y, in := r.Get(x.Ref)
		if !in || insts.LessBallot(y.Ballot, x.Ballot) || x.Status == api.Done && !alike(x, y) {
			t.Fatalf("%v was known, and now it is %v", x, y)
		}
	}
}
