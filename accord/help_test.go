package accord_test

import (
	"math/rand"
	"slices"
	"testing"

	"lamella/accord"
	"lamella/api"
)

// shard is the number of the tests' shard.
const shard = 5

func ref(lead, index int) api.Ref { return api.Ref{Lead: lead, Index: index} }

// refs is a list of Refs as it may be written by hand.
func refs(l ...api.Ref) []api.Ref { return l }

func ballot(n, node int) api.Ballot { return api.Ballot{N: n, Node: node} }

// write is a client's write of one block.
func write(client, seq, block int) api.Cmd {
	return api.Cmd{Op: api.OpWrite, Client: client, Seq: seq, From: block, To: block + 1, Data: []string{"a"}}
}

func read(client, from, to int) api.Cmd {
	return api.Cmd{Op: api.OpRead, Client: client, Seq: 1, From: from, To: to}
}

func freeze() api.Cmd { return api.Cmd{Op: api.OpFreeze} }

// inst is an instance that got its status by the ballot b, and has heard of no other one.
func inst(status int, r api.Ref, b api.Ballot, c api.Cmd, seq int, deps ...api.Ref) api.Inst {
	return api.Inst{Ref: r, Ballot: b, Vote: b, Status: status, Cmd: c, Seq: seq, Deps: deps}
}

func seen(r api.Ref, b api.Ballot, c api.Cmd, seq int, deps ...api.Ref) api.Inst {
	return inst(api.Seen, r, b, c, seq, deps...)
}

func taken(r api.Ref, b api.Ballot, c api.Cmd, seq int, deps ...api.Ref) api.Inst {
	return inst(api.Taken, r, b, c, seq, deps...)
}

func done(r api.Ref, b api.Ballot, c api.Cmd, seq int, deps ...api.Ref) api.Inst {
	return inst(api.Done, r, b, c, seq, deps...)
}

// bare is an instance of which a ballot is known, and nothing else.
func bare(r api.Ref, b api.Ballot) api.Inst { return api.Inst{Ref: r, Ballot: b} }

// same is x as one that has its leader's order.
func same(x api.Inst) api.Inst {
	x.Same = true
	return x
}

// above is x with a greater ballot that was heard of.
func above(x api.Inst, b api.Ballot) api.Inst {
	x.Ballot = b
	return x
}

// as is x with another status.
func as(status int, x api.Inst) api.Inst {
	x.Status = status
	return x
}

// alike: are all fields the same?
func alike(a, b api.Inst) bool {
	numbers := func(x api.Inst) [13]int {
		return [13]int{x.Ref.Lead, x.Ref.Index, x.Ballot.N, x.Ballot.Node, x.Vote.N, x.Vote.Node, x.Status, x.Seq,
			x.Cmd.Op, x.Cmd.Client, x.Cmd.Seq, x.Cmd.From, x.Cmd.To}
	}
	return numbers(a) == numbers(b) && a.Same == b.Same && slices.Equal(a.Cmd.Data, b.Cmd.Data) && slices.Equal(a.Deps, b.Deps)
}

// mailsAlike: are all fields the same?
func mailsAlike(a, b api.Mail) bool {
	numbers := func(m api.Mail) [9]int {
		return [9]int{m.Kind, m.From, m.To, m.Shard, m.Term, m.Index, m.Past, m.Commit, m.Epoch}
	}
	return numbers(a) == numbers(b) && alike(a.Inst, b.Inst) && a.Ok == b.Ok && len(a.Entries) == 0 && len(b.Entries) == 0 && a.Text == b.Text
}

// mail is one of the tests' shard; of MailPreOk Ok is as Same, as it must be.
func mail(kind, from, to int, x api.Inst) api.Mail {
	return api.Mail{Kind: kind, From: from, To: to, Shard: shard, Inst: x, Ok: kind == api.MailPreOk && x.Same}
}

// mails is the same mail to some nodes.
func mails(kind, from int, x api.Inst, to ...int) []api.Mail {
	var l []api.Mail
	for _, n := range to {
		l = append(l, mail(kind, from, n, x))
	}
	return l
}

func saves(l ...api.Inst) []api.Inst { return l }

// asks checks what a call asks for.
func asks(t *testing.T, what string, out api.Out, kept []api.Inst, sent ...api.Mail) {
	t.Helper()
	if !slices.EqualFunc(out.Saves, kept, alike) {
		t.Errorf("%s: keeps %v, not %v", what, out.Saves, kept)
	}
	if !slices.EqualFunc(out.Mails, sent, mailsAlike) {
		t.Errorf("%s: sends %v, not %v", what, out.Mails, sent)
	}
}

// asksNothing checks that a call asks for nothing.
func asksNothing(t *testing.T, what string, out api.Out) {
	t.Helper()
	asks(t, what, out, nil)
}

// begins is a replica of the tests' shard that knows l.
func begins(t *testing.T, self int, members []int, l ...api.Inst) *accord.Replica {
	t.Helper()
	r, e := accord.New(self, shard, members, l)
	if e != api.OK || r == nil {
		t.Fatalf("New of %d among %v: %v, error %d", self, members, r, e)
	}
	return r
}

// three, five, seven are members as most tests have them.
func three() []int { return []int{0, 1, 2} }
func five() []int  { return []int{0, 1, 2, 3, 4} }
func seven() []int { return []int{0, 1, 2, 3, 4, 5, 6} }

// proposes is a proposal that must be taken.
func proposes(t *testing.T, r *accord.Replica, c api.Cmd) (api.Ref, api.Out) {
	t.Helper()
	x, out, e := r.Propose(c)
	if e != api.OK {
		t.Fatalf("Propose of %v: error %d", c, e)
	}
	return x, out
}

// has checks all that a replica tells of what it knows, by rising Refs, and how many tries it has.
func has(t *testing.T, what string, r *accord.Replica, tries int, want ...api.Inst) {
	t.Helper()
	if got := r.Insts(); !slices.EqualFunc(got, want, alike) {
		t.Errorf("%s: it knows %v, not %v", what, got, want)
	}
	for _, x := range want {
		if got, in := r.Get(x.Ref); !in || !alike(got, x) {
			t.Errorf("%s: Get of %v is %v, %v, not %v", what, x.Ref, got, in, x)
		}
	}
	if r.Tries() != tries {
		t.Errorf("%s: %d tries, not %d", what, r.Tries(), tries)
	}
}

// quiet ticks n times, in which nothing but MailNext may be asked for.
func quiet(t *testing.T, what string, r *accord.Replica, n int, wants ...api.Ref) {
	t.Helper()
	for i := range n {
		out := r.Tick(wants)
		asks(t, what, withoutNext(out), nil)
		if t.Failed() {
			t.Fatalf("%s: at tick %d of %d", what, i+1, n)
		}
	}
}

// withoutNext is what is asked for but the mails of each eighth tick.
func withoutNext(out api.Out) api.Out {
	out.Mails = slices.DeleteFunc(slices.Clone(out.Mails), func(m api.Mail) bool { return m.Kind == api.MailNext })
	return out
}

// tells tells a replica an answer, which must be enough for nothing yet.
func tells(t *testing.T, what string, r *accord.Replica, m api.Mail) {
	t.Helper()
	asksNothing(t, what, r.Hear(m))
}

// full is as many instances as a table takes, of the member 2; none of them meddles with anything.
func full() []api.Inst {
	var l []api.Inst
	for i := range api.MaxList {
		l = append(l, done(ref(2, i+1), ballot(0, 2), api.Cmd{}, 0))
	}
	return l
}

// rows is many Refs, rising, from Index from on.
func rows(lead, from, n int) []api.Ref {
	var l []api.Ref
	for i := range n {
		l = append(l, ref(lead, from+i))
	}
	return l
}

// dice are the same in each run.
type dice struct{ *rand.Rand }

func newDice(seed int64) dice { return dice{rand.New(rand.NewSource(seed))} }

// cmd is one of all kinds, on few blocks.
func (d dice) cmd(seq int) api.Cmd {
	from := d.Intn(4)
	switch d.Intn(12) {
	case 0:
		return api.Cmd{}
	case 1:
		return freeze()
	case 2, 3:
		return api.Cmd{Op: api.OpTrim, Client: d.Intn(4), Seq: seq, From: from, To: from + 2}
	case 4, 5:
		return api.Cmd{Op: api.OpRead, Client: d.Intn(4), Seq: seq, From: from, To: from + 1}
	default:
		return write(d.Intn(4), seq, from)
	}
}
